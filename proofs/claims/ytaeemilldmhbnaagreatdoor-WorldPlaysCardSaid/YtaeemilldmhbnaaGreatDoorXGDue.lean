/- A part of the claim: the texts DueMath Due. -/
import Derived.Test.YtaeemilldmhbnaaGreatDoorXGFltE
import Derived.Test.YtaeemilldmhbnaaGreatDoorXBase1
set_option maxRecDepth 100000
set_option maxHeartbeats 8000000
set_option linter.unusedVariables false
namespace Go.Proofs.YtaeemilldmhbnaaGreatDoor.Cn
open Go Go.ChangeShapes Go.WideShapes Go.ChangeAt Go.RowKit Rw Fl
def shr8 (k:Nat):Nat:=
 if k=0 then 0 else if k=1 then 4593671619917905920 else if k=2 then 4598175219545276416 else if k=3 then 4600427019358961664
 else if k=4 then 4602678819172646912 else if k=5 then 4603804719079489536 else if k=6 then 4604930618986332160 else 4606056518893174784
theorem sh_quo (k:Nat) (hk:k < 8):floatBits .quo .f64 (floatOfInt .f64 (k:Int)) (floatOfInt .f64 8)=some (shr8 k):=by
 have h:k=0∨k=1∨k=2∨k=3∨k=4∨k=5∨k=6∨k=7:=by omega
 rcases h with rfl | rfl | rfl | rfl | rfl | rfl | rfl | rfl <;> decide +kernel
theorem sh_quo' (k:Nat) (hk:k < 8):floatBits .quo .f64 (floatOfInt .f64 (k:Int)) 4620693217682128896=some (shr8 k):=by
 rw [← sh_quo k hk]
 congr 1
theorem shr8_le (k:Nat):shr8 k≤4606056518893174784:=by
 unfold shr8
 repeat' split
 all_goals omega
def vr (k v:Nat):Nat:=(floatBits .mul .f64 (shr8 k) v).getD 0
theorem pr_one:pr 4607182418800017408 4607182418800017408=4607182418800017408:=by decide +kernel
theorem mul_sg (k:Nat) (hk:k < 8):floatBits .mul .f64 (shr8 k) 9223372036854775808=some 9223372036854775808:=by
 have h:k=0∨k=1∨k=2∨k=3∨k=4∨k=5∨k=6∨k=7:=by omega
 rcases h with rfl | rfl | rfl | rfl | rfl | rfl | rfl | rfl <;> decide +kernel
theorem vr_is (k v:Nat) (hk:k < 8) (hv:v < 18446744073709551616) (hc:ck v 0 4607182418800017408=0) :
  floatBits .mul .f64 (shr8 k) v=some (vr k v)∧vr k v < 18446744073709551616:=by
 have i1:=INF_is
 have i2:=SG_is
 have i3:=INF_SG
 have G:Ko 0=0:=by decide
 have I:Ko 4607182418800017408=4607182418800017408:=Ko_small (by omega)
 unfold ck at hc
 split at hc
 ·cases hc
 ·next hn=>
  split at hc
  ·cases hc
  ·next u=>
   rw [G,I] at u
   have a0:isN v=false:=by
    cases h:isN v with
    | false=>rfl
    | true=>exact absurd (.inl h) hn
   suffices h:∃ p,floatBits .mul .f64 (shr8 k) v=some p∧p < 18446744073709551616 by
    obtain ⟨p,z,F⟩:=h
    unfold vr
    rw [z]
    exact ⟨rfl,F⟩
   by_cases hs:v < SG
   ·rw [Ko_small hs] at u
    have Y:v≤4607182418800017408:=by omega
    refine ⟨pr (shr8 k) v,mul_eq (by have:=shr8_le k; omega) (by omega),?_⟩
    have:=pr_mono (x:=shr8 k) (x':=4607182418800017408) (y:=v) (y':=4607182418800017408) (by have:=shr8_le k; omega) Y
    rw [pr_one] at this
    omega
   ·have W:sg v=true:=by unfold sg; rw [decide_eq_true_eq]; omega
    have N:rg v=v - SG:=by unfold rg; rw [if_pos (by omega)]
    have J:Ko v = -(rg v:Int):=by unfold Ko; rw [W]; rfl
    rw [J,N] at u
    have:v=9223372036854775808:=by omega
    subst this
    exact ⟨_,mul_sg k hk,by omega⟩
def lf (c:Cf) (id:Int):Int:=if c.life=0 then 0 else mx2 1 (c.life - (Fl.part c.life.toNat (vr (id % 8).toNat c.var):Nat))
theorem lf_lo (c:Cf) (h:c.ok) (id:Int):0≤lf c id∧lf c id≤18446744073709551615:=by
 have u:=h.life
 unfold lf
 split
 ·omega
 ·have:=Fl.part_le c.life.toNat (vr (id % 8).toNat c.var)
  unfold mx2
  split <;> omega
def pst (now t n:Int):Bool:=n != 0 && decide (n≤Ck.cSince (Ck.cAdd now 0) t)
def dueC (c:Cf) (id now born since proved live:Int) (closed:Bool):Int:=
 if closed=true then 1 else if pst now born (lf c id)=true then 2
 else if pst now since c.idle=true∧c.min < live then 3 else if pst now proved c.keep=true then 4 else 0
end Go.Proofs.YtaeemilldmhbnaaGreatDoor.Cn
namespace Go.Proofs.YtaeemilldmhbnaaGreatDoor.Cn
open Go Go.ChangeShapes Go.WideShapes Go.ChangeAt Go.RowKit Rw Fl Ck
theorem share8_any (k:Int) (hk:0≤k∧k < 8) (w:World):Calls Tryz.prog 200 #[.int .u64 k,.int .u64 8] w fun e w'=>e=.returned (.float .f64 (shr8 k.toNat))∧w=w':=by
 have h:floatBits .quo .f64 (floatOfInt .f64 k) (floatOfInt .f64 8)=some (shr8 k.toNat):=by
  have:=sh_quo k.toNat (by omega)
  rwa [Int.toNat_of_nonneg hk.1] at this
 have u:=fun w=>run_float_arith (P:=Tryz.prog) w .quo 28 .f64 _ _ _ h
 clear h
 go_enter Tryz.func200,Tryz.ntmps200
 go_wp2
 go_ret
 exact ⟨rfl,rfl⟩
theorem max2_run (P:Program) (a b:Int) (w:World) (h:Array TypeId) (t:TypeId):(Builtin.max_ h t #[.int .u64 a,.int .u64 b]).run P w=.ok (.int .u64 (mx2 a b)) w:=by
 simp [Builtin.max_,Builtin.max2,mx2]
abbrev okC (c:Cf):Prop:=c.ok∧ck c.var 0 4607182418800017408=0
theorem lifeof_any (c:Cf) (h:okC c) (id:Int) (hid:U64 id) (w:World) :
  Calls Tryz.prog 155 #[c.v,.int .u64 id] w fun e w'=>e=.returned (.int .u64 (lf c id))∧Below w.heap.size w w':=by
 obtain ⟨mx,W,J,z,N,lk,F⟩:=c
 obtain ⟨a0,I⟩:=h
 have Y:U64 z:=a0.life
 have a1:F < 18446744073709551616:=a0.var
 have I:ck F 0 4607182418800017408=0:=I
 have HB:=Lh ((Below.refl w.heap.size w).alloc (Nat.le_refl _) (.cells #[.int .i64 mx,.int .i64 W,.int .u64 J,.int .u64 z,.int .u64 N,.int .u64 lk,.float .f64 F] 30))
 have k3:(w.alloc (.cells #[.int .i64 mx,.int .i64 W,.int .u64 J,.int .u64 z,.int .u64 N,.int .u64 lk,.float .f64 F] 30)).cell? ⟨w.heap.size,3,none⟩=some (.int .u64 z):=by go_simp
 have k6:(w.alloc (.cells #[.int .i64 mx,.int .i64 W,.int .u64 J,.int .u64 z,.int .u64 N,.int .u64 lk,.float .f64 F] 30)).cell? ⟨w.heap.size,6,none⟩=some (.float .f64 F):=by go_simp
 have e0:lf ⟨mx,W,J,z,N,lk,F⟩ id=if z=0 then 0 else mx2 1 (z - (Fl.part z.toNat (vr (id % 8).toNat F):Nat)):=rfl
 rw [e0]
 clear e0 a0
 by_cases h0:z=0
 ·rw [if_pos h0]
  have q0:(z == 0)=true:=by simpa using h0
  clear h0 Y I a1 hid
  go_enter Tryz.func155,Tryz.ntmps155
  go_wp2_with fail
  go_ret
  exact ⟨rfl,HB.out⟩
 ·rw [if_neg h0]
  have q0:(z == 0)=false:=by simpa using h0
  obtain ⟨k,hk⟩:∃ k,id % 8=k:=⟨_,rfl⟩
  have a7:id.tmod 8=k:=by rw [Int.tmod_eq_emod_of_nonneg hid.1]; exact hk
  have a3:0≤k∧k < 8:=by omega
  obtain ⟨hm,hP⟩:=vr_is k.toNat F (by omega) a1 I
  have hq:=sh_quo' k.toNat (by omega)
  rw [Int.toNat_of_nonneg a3.1] at hq
  rw [hk]
  have a6:=Fl.part_le z.toNat (vr k.toNat F)
  have hp:∀ w,Calls Tryz.prog 199 #[.int .u64 z,.float .f64 (vr k.toNat F)] w fun e w'=>e=.returned (.int .u64 (Fl.part z.toNat (vr k.toNat F):Nat))∧w=w':=fun w=>by
   have:=Fl.part_any z.toNat (vr k.toNat F) w (by have:=Y.2; omega) hP
   rwa [Int.toNat_of_nonneg Y.1] at this
  have HP:=Lh hp
  have a5:=Lh (fun w=>share8_any k a3 w)
  clear hp I a1
  generalize vr k.toNat F=pq at *
  generalize shr8 k.toNat=sh at *
  obtain ⟨G,a4⟩:∃ G:Int,((Fl.part z.toNat pq:Nat):Int)=G:=⟨_,rfl⟩
  have a9:0≤G∧G≤z:=by omega
  rw [a4] at HP ⊢
  have hw:IntKind.u64.wrap (z - G)=z - G:=by rw [IntKind.wrap_u64]; have:=Y.2; omega
  have r2:=fun w=>run_float_arith (P:=Tryz.prog) w .mul 28 .f64 _ _ _ hm
  have a8:=max2_run Tryz.prog 1 (z - G)
  clear a6 a4 hP hm hid h0 hq
  go_enter Tryz.func155,Tryz.ntmps155
  go_upto_region 1 with (fail)
  generalize (w.alloc (.cells #[.int .i64 mx,.int .i64 W,.int .u64 J,.int .u64 z,.int .u64 N,.int .u64 lk,.float .f64 F] 30))=W0 at *
  have u3:∀ u:After W0,u.1.cell? ⟨w.heap.size,3,none⟩=some (.int .u64 z):=fun u=>u.cell k3
  have u6:∀ u:After W0,u.1.cell? ⟨w.heap.size,6,none⟩=some (.float .f64 F):=fun u=>u.cell k6
  go_wp2_with fail
  refine region_after (by kernel_rfl) (by kernel_rfl) ?_
  repeat (go_big_quiet_step (first
   | (go_at_call 200; exact After.same (a5.out _))
   | (go_at_call 199; exact After.same (HP.out _))))
  refine wpQuiet_nil ?_
  rintro W1 ⟨⟨_,a2⟩,rfl⟩
  have c3:=u3 ⟨W1,a2⟩
  clear u3 u6 k6 k3
  go_wp2_with fail
  go_ret
  exact ⟨by simp,HB.out.trans (a2.mono HB.out.size)⟩
theorem rlifeof_any (c:Cf) (h:okC c) (id:Int) (hid:U64 id) (w:World) :
  Calls Tryz.prog 157 #[c.v,.int .u64 id] w fun e w'=>e=.returned (.int .u64 (lf c id))∧Below w.heap.size w w':=by
 obtain ⟨mx,N,I,z,J,lk,F⟩:=c
 obtain ⟨a3,a0⟩:=h
 have a1:U64 z:=a3.life
 have a4:F < 18446744073709551616:=a3.var
 have a0:ck F 0 4607182418800017408=0:=a0
 have W:=Lh ((Below.refl w.heap.size w).alloc (Nat.le_refl _) (.cells #[.int .i64 mx,.int .i64 N,.int .u64 I,.int .u64 z,.int .u64 J,.int .u64 lk,.float .f64 F] 36))
 have k3:(w.alloc (.cells #[.int .i64 mx,.int .i64 N,.int .u64 I,.int .u64 z,.int .u64 J,.int .u64 lk,.float .f64 F] 36)).cell? ⟨w.heap.size,3,none⟩=some (.int .u64 z):=by go_simp
 have k6:(w.alloc (.cells #[.int .i64 mx,.int .i64 N,.int .u64 I,.int .u64 z,.int .u64 J,.int .u64 lk,.float .f64 F] 36)).cell? ⟨w.heap.size,6,none⟩=some (.float .f64 F):=by go_simp
 have e0:lf ⟨mx,N,I,z,J,lk,F⟩ id=if z=0 then 0 else mx2 1 (z - (Fl.part z.toNat (vr (id % 8).toNat F):Nat)):=rfl
 rw [e0]
 clear e0 a3
 by_cases h0:z=0
 ·rw [if_pos h0]
  have q0:(z == 0)=true:=by simpa using h0
  clear h0 a1 a0 a4 hid
  go_enter Tryz.func157,Tryz.ntmps157
  go_wp2_with fail
  go_ret
  exact ⟨rfl,W.out⟩
 ·rw [if_neg h0]
  have q0:(z == 0)=false:=by simpa using h0
  obtain ⟨k,hk⟩:∃ k,id % 8=k:=⟨_,rfl⟩
  have a9:id.tmod 8=k:=by rw [Int.tmod_eq_emod_of_nonneg hid.1]; exact hk
  have a5:0≤k∧k < 8:=by omega
  obtain ⟨hm,hP⟩:=vr_is k.toNat F (by omega) a4 a0
  have hq:=sh_quo' k.toNat (by omega)
  rw [Int.toNat_of_nonneg a5.1] at hq
  rw [hk]
  have a8:=Fl.part_le z.toNat (vr k.toNat F)
  have hp:∀ w,Calls Tryz.prog 202 #[.int .u64 z,.float .f64 (vr k.toNat F)] w fun e w'=>e=.returned (.int .u64 (Fl.part z.toNat (vr k.toNat F):Nat))∧w=w':=fun w=>by
   have:=Fl.rpart_any z.toNat (vr k.toNat F) w (by have:=a1.2; omega) hP
   rwa [Int.toNat_of_nonneg a1.1] at this
  have HP:=Lh hp
  have a7:=Lh (fun w=>share8_any k a5 w)
  clear hp a0 a4
  generalize vr k.toNat F=pq at *
  generalize shr8 k.toNat=sh at *
  obtain ⟨G,a6⟩:∃ G:Int,((Fl.part z.toNat pq:Nat):Int)=G:=⟨_,rfl⟩
  have aa:0≤G∧G≤z:=by omega
  rw [a6] at HP ⊢
  have hw:IntKind.u64.wrap (z - G)=z - G:=by rw [IntKind.wrap_u64]; have:=a1.2; omega
  have r2:=fun w=>run_float_arith (P:=Tryz.prog) w .mul 28 .f64 _ _ _ hm
  have r1:=fun w=>run_float_arith (P:=Tryz.prog) w .quo 28 .f64 _ _ _ hq
  clear a8 a6 hP hm hid h0 hq a7
  by_cases hz:z - G=0
  ·have z1:(z - G == 0)=true:=by simpa using hz
   have Y:mx2 1 (z - G)=1:=by unfold mx2; split <;> omega
   rw [Y]
   clear hz Y
   go_enter Tryz.func157,Tryz.ntmps157
   go_upto_region 1 with (fail)
   generalize (w.alloc (.cells #[.int .i64 mx,.int .i64 N,.int .u64 I,.int .u64 z,.int .u64 J,.int .u64 lk,.float .f64 F] 36))=W0 at *
   have u3:∀ u:After W0,u.1.cell? ⟨w.heap.size,3,none⟩=some (.int .u64 z):=fun u=>u.cell k3
   go_wp2_with fail
   refine region_after (by kernel_rfl) (by kernel_rfl) ?_
   repeat (go_big_quiet_step (first
    | (go_at_call 202; exact After.same (HP.out _))))
   refine wpQuiet_nil ?_
   rintro W1 ⟨⟨_,a2⟩,rfl⟩
   clear u3 k6 k3
   go_wp2_with fail
   go_ret
   exact ⟨rfl,W.out.trans (a2.mono W.out.size)⟩
  ·have z1:(z - G == 0)=false:=by simpa using hz
   have Y:mx2 1 (z - G)=z - G:=by unfold mx2; split <;> omega
   rw [Y]
   clear hz Y
   go_enter Tryz.func157,Tryz.ntmps157
   go_upto_region 1 with (fail)
   generalize (w.alloc (.cells #[.int .i64 mx,.int .i64 N,.int .u64 I,.int .u64 z,.int .u64 J,.int .u64 lk,.float .f64 F] 36))=W0 at *
   have u3:∀ u:After W0,u.1.cell? ⟨w.heap.size,3,none⟩=some (.int .u64 z):=fun u=>u.cell k3
   go_wp2_with fail
   refine region_after (by kernel_rfl) (by kernel_rfl) ?_
   repeat (go_big_quiet_step (first
    | (go_at_call 202; exact After.same (HP.out _))))
   refine wpQuiet_nil ?_
   rintro W1 ⟨⟨_,a2⟩,rfl⟩
   clear u3 k6 k3
   go_wp2_with fail
   go_ret
   exact ⟨rfl,W.out.trans (a2.mono W.out.size)⟩
theorem past_any (now t n:Int) (u:U64 now) (z:U64 t) (Y:U64 n) (w:World) :
  Calls Tryz.prog 154 #[.int .u64 now,.int .u64 t,.int .u64 n] w fun e w'=>e=.returned (.bool (pst now t n))∧Below w.heap.size w w':=by
 by_cases h0:n=0
 ·subst h0
  have h:pst now t 0=false:=rfl
  rw [h]
  clear h
  go_enter Tryz.func154,Tryz.ntmps154
  go_wp2_with fail
  go_ret
  exact ⟨rfl,Below.refl _ _⟩
 ·have q0:(n == 0)=false:=by simpa using h0
  have N:(n != 0)=true:=by simpa using h0
  have h:pst now t n=decide (n≤cSince (cAdd now 0) t):=by unfold pst; rw [N]; rfl
  have F:=cAdd_lo now 0 u.1 (by decide)
  have G:=cAdd_u now 0
  rw [h]
  clear h h0
  have I:=Lh (at_any now w u.1 u.2)
  have J:=Lh (fun w=>since_any (cAdd now 0) t w F G z.1 z.2)
  generalize cAdd now 0=a at *
  generalize cSince a t=sc at *
  clear F G
  go_enter Tryz.func154,Tryz.ntmps154
  go_wp2_with fail
  refine I.out.mono ?_
  rintro e W ⟨rfl,rfl⟩
  go_wp2_with fail
  refine (J.out _).mono ?_
  rintro e W ⟨rfl,rfl⟩
  go_wp2_with fail
  go_ret
  exact ⟨by simp,(((Below.refl _ w).alloc (Nat.le_refl _) _).alloc (by simp) _).alloc (by simp; omega) _⟩
theorem rpast_any (now t n:Int) (u:U64 now) (z:U64 t) (Y:U64 n) (w:World) :
  Calls Tryz.prog 156 #[.int .u64 now,.int .u64 t,.int .u64 n] w fun e w'=>e=.returned (.bool (pst now t n))∧Below w.heap.size w w':=by
 by_cases h0:n=0
 ·subst h0
  have h:pst now t 0=false:=rfl
  rw [h]
  clear h
  go_enter Tryz.func156,Tryz.ntmps156
  go_wp2_with fail
  go_ret
  exact ⟨rfl,Below.refl _ _⟩
 ·have q0:(n == 0)=false:=by simpa using h0
  have N:(n != 0)=true:=by simpa using h0
  have h:pst now t n=decide (n≤cSince (cAdd now 0) t):=by unfold pst; rw [N]; rfl
  have F:=cAdd_lo now 0 u.1 (by decide)
  have G:=cAdd_u now 0
  rw [h]
  clear h h0
  have I:=Lh (radd_any now 0 w u.1 u.2 (by decide) (by decide))
  have J:=Lh (fun w=>rsince_any (cAdd now 0) t w F G z.1 z.2)
  generalize cAdd now 0=a at *
  generalize cSince a t=sc at *
  clear F G
  go_enter Tryz.func156,Tryz.ntmps156
  go_wp2_with fail
  refine I.out.mono ?_
  rintro e W ⟨rfl,rfl⟩
  go_wp2_with fail
  refine (J.out _).mono ?_
  rintro e W ⟨rfl,rfl⟩
  go_wp2_with fail
  go_ret
  exact ⟨by simp,Below.refl _ _⟩
structure Dx (W:World) (g h:Nat) (c:Cf) (id now born since proved live:Int) (cz:Bool):Prop where
 k0:W.cell? ⟨g,0,none⟩=some (.int .i64 c.max)
 k1:W.cell? ⟨g,1,none⟩=some (.int .i64 c.min)
 k2:W.cell? ⟨g,2,none⟩=some (.int .u64 c.idle)
 k3:W.cell? ⟨g,3,none⟩=some (.int .u64 c.life)
 k4:W.cell? ⟨g,4,none⟩=some (.int .u64 c.keep)
 k5:W.cell? ⟨g,5,none⟩=some (.int .u64 c.leak)
 k6:W.cell? ⟨g,6,none⟩=some (.float .f64 c.var)
 d0:W.cell? ⟨h,0,none⟩=some (.int .u64 id)
 d1:W.cell? ⟨h,1,none⟩=some (.int .u64 now)
 d2:W.cell? ⟨h,2,none⟩=some (.int .u64 born)
 d3:W.cell? ⟨h,3,none⟩=some (.int .u64 since)
 d4:W.cell? ⟨h,4,none⟩=some (.int .u64 proved)
 d5:W.cell? ⟨h,5,none⟩=some (.int .i64 live)
 d6:W.cell? ⟨h,6,none⟩=some (.bool cz)
theorem Dx.later {W w':World} {g h:Nat} {c:Cf} {id now born since proved live:Int} {z:Bool} (x:Dx W g h c id now born since proved live z) (u:Below W.heap.size W w'):Dx w' g h c id now born since proved live z:=
 ⟨(u.cell (Lw.lt_heap x.k0)).trans x.k0,(u.cell (Lw.lt_heap x.k1)).trans x.k1,(u.cell (Lw.lt_heap x.k2)).trans x.k2,(u.cell (Lw.lt_heap x.k3)).trans x.k3,(u.cell (Lw.lt_heap x.k4)).trans x.k4,(u.cell (Lw.lt_heap x.k5)).trans x.k5,(u.cell (Lw.lt_heap x.k6)).trans x.k6,
  (u.cell (Lw.lt_heap x.d0)).trans x.d0,(u.cell (Lw.lt_heap x.d1)).trans x.d1,(u.cell (Lw.lt_heap x.d2)).trans x.d2,(u.cell (Lw.lt_heap x.d3)).trans x.d3,(u.cell (Lw.lt_heap x.d4)).trans x.d4,(u.cell (Lw.lt_heap x.d5)).trans x.d5,(u.cell (Lw.lt_heap x.d6)).trans x.d6⟩
theorem cdue_any (c:Cf) (h:okC c) (id now born since proved live:Int) (J:Bool) (hid:U64 id) (a9:U64 now) (ag:U64 born) (aj:U64 since) (ai:U64 proved) (w:World) :
  Calls Tryz.prog 83 #[c.v,.agg #[.int .u64 id,.int .u64 now,.int .u64 born,.int .u64 since,.int .u64 proved,.int .i64 live,.bool J]] w fun e w'=>e=.returned (.int .i64 (dueC c id now born since proved live J))∧Below w.heap.size w w':=by
 have ah:=lf_lo c h.1 id
 have ak:=Lh (fun w=>lifeof_any c h id hid w)
 obtain ⟨b1,ac⟩:∃ b,pst now born (lf c id)=b:=⟨_,rfl⟩
 obtain ⟨b2,a2⟩:∃ b,pst now since c.idle=b:=⟨_,rfl⟩
 obtain ⟨b3,a3⟩:∃ b,pst now proved c.keep=b:=⟨_,rfl⟩
 have ae:=Lh (fun w=>past_any now born (lf c id) a9 ag ah w)
 have af:=Lh (fun w=>past_any now since c.idle a9 aj h.1.idle w)
 have a6:=Lh (fun w=>past_any now proved c.keep a9 ai h.1.keep w)
 rw [ac] at ae
 rw [a2] at af
 rw [a3] at a6
 have e0:dueC c id now born since proved live J=if J=true then 1 else if b1=true then 2 else if b2=true∧c.min < live then 3 else if b3=true then 4 else 0:=by
  unfold dueC; rw [ac,a2,a3]
 rw [e0]
 obtain ⟨dv,ad⟩:∃ dv:Int,(if J=true then 1 else if b1=true then 2 else if b2=true∧c.min < live then 3 else if b3=true then 4 else 0)=dv:=⟨_,rfl⟩
 rw [ad]
 have a0:=Lh ad
 generalize lf c id=L at *
 clear e0 ad ac a2 a3 ah h hid a9 ag aj ai
 obtain ⟨mx,N,il,li,kp,lk,vv⟩:=c
 have aa:Hid (Below w.heap.size w ((w.alloc (.cells #[.int .i64 mx,.int .i64 N,.int .u64 il,.int .u64 li,.int .u64 kp,.int .u64 lk,.float .f64 vv] 30)).alloc (.cells #[.int .u64 id,.int .u64 now,.int .u64 born,.int .u64 since,.int .u64 proved,.int .i64 live,.bool J] 160))):=Lh (((Below.refl _ w).alloc (Nat.le_refl _) _).alloc (by simp) _)
 have hx:Dx ((w.alloc (.cells #[.int .i64 mx,.int .i64 N,.int .u64 il,.int .u64 li,.int .u64 kp,.int .u64 lk,.float .f64 vv] 30)).alloc (.cells #[.int .u64 id,.int .u64 now,.int .u64 born,.int .u64 since,.int .u64 proved,.int .i64 live,.bool J] 160)) w.heap.size (w.heap.size+1) ⟨mx,N,il,li,kp,lk,vv⟩ id now born since proved live J:=by
  refine ⟨?_,?_,?_,?_,?_,?_,?_,?_,?_,?_,?_,?_,?_,?_⟩ <;> go_simp
 have z:=Lh hx
 clear hx
 cases J with
 | true=>
  go_enter Tryz.func83,Tryz.ntmps83
  go_upto_region 1 with (fail)
  generalize ((w.alloc (.cells #[.int .i64 mx,.int .i64 N,.int .u64 il,.int .u64 li,.int .u64 kp,.int .u64 lk,.float .f64 vv] 30)).alloc (.cells #[.int .u64 id,.int .u64 now,.int .u64 born,.int .u64 since,.int .u64 proved,.int .i64 live,.bool true] 160))=F at *
  obtain ⟨g,hg⟩:∃ g,w.heap.size=g:=⟨_,rfl⟩
  obtain ⟨W,a4⟩:∃ W,g+1=W:=⟨_,rfl⟩
  rw [hg,a4] at z
  rw [hg]
  try rw [a4]
  have a5:Hid (Below w.heap.size w F):=Lh aa.out
  clear hg a4
  have z6:=z.out.d6
  go_wp2_with fail
  clear z6
  go_ret
  exact ⟨by rw [← a0.out]; simp,a5.out⟩
 | false=>
  go_enter Tryz.func83,Tryz.ntmps83
  go_upto_region 1 with (fail)
  generalize ((w.alloc (.cells #[.int .i64 mx,.int .i64 N,.int .u64 il,.int .u64 li,.int .u64 kp,.int .u64 lk,.float .f64 vv] 30)).alloc (.cells #[.int .u64 id,.int .u64 now,.int .u64 born,.int .u64 since,.int .u64 proved,.int .i64 live,.bool false] 160))=F at *
  obtain ⟨g,hg⟩:∃ g,w.heap.size=g:=⟨_,rfl⟩
  obtain ⟨W,a4⟩:∃ W,g+1=W:=⟨_,rfl⟩
  rw [hg,a4] at z
  rw [hg]
  try rw [a4]
  have a5:Hid (Below w.heap.size w F):=Lh aa.out
  clear hg a4
  have z6:=z.out.d6
  go_wp2_with fail
  clear z6
  have i0:∀ u:After F,u.1.cell? ⟨g,0,none⟩=some (.int .i64 mx):=fun u=>u.cell z.out.k0
  have i1:∀ u:After F,u.1.cell? ⟨g,1,none⟩=some (.int .i64 N):=fun u=>u.cell z.out.k1
  have i2:∀ u:After F,u.1.cell? ⟨g,2,none⟩=some (.int .u64 il):=fun u=>u.cell z.out.k2
  have i3:∀ u:After F,u.1.cell? ⟨g,3,none⟩=some (.int .u64 li):=fun u=>u.cell z.out.k3
  have i4:∀ u:After F,u.1.cell? ⟨g,4,none⟩=some (.int .u64 kp):=fun u=>u.cell z.out.k4
  have i5:∀ u:After F,u.1.cell? ⟨g,5,none⟩=some (.int .u64 lk):=fun u=>u.cell z.out.k5
  have i6:∀ u:After F,u.1.cell? ⟨g,6,none⟩=some (.float .f64 vv):=fun u=>u.cell z.out.k6
  have j0:∀ u:After F,u.1.cell? ⟨W,0,none⟩=some (.int .u64 id):=fun u=>u.cell z.out.d0
  have j1:∀ u:After F,u.1.cell? ⟨W,1,none⟩=some (.int .u64 now):=fun u=>u.cell z.out.d1
  have j2:∀ u:After F,u.1.cell? ⟨W,2,none⟩=some (.int .u64 born):=fun u=>u.cell z.out.d2
  refine region_after (by kernel_rfl) (by kernel_rfl) ?_
  repeat (go_big_quiet_step (first
   | (go_at_call 155; exact After.call (ak.out _))
   | (go_at_call 154; exact After.call (ae.out _))))
  refine wpQuiet_nil ?_
  rintro W2 ⟨⟨_,a2⟩,rfl⟩
  clear i0 i1 i2 i3 i4 i5 i6 j0 j1 j2
  have a1:=Lh (z.out.later a2)
  have a8:Hid (Below w.heap.size w W2):=Lh (a5.out.trans (a2.mono a5.out.size))
  clear a2 z a5 aa
  cases b1 with
  | true=>
   go_wp2_with fail
   go_ret
   exact ⟨by rw [← a0.out]; simp,a8.out⟩
  | false=>
   have z1:=a1.out.d1
   have z3:=a1.out.d3
   have z5:=a1.out.d5
   have y1:=a1.out.k1
   have y2:=a1.out.k2
   go_wp2_with fail
   clear z1 z3 z5 y1 y2
   refine (af.out _).mono ?_
   rintro e W3 ⟨rfl,a3⟩
   have a7:=Lh (a1.out.later a3)
   have I:Hid (Below w.heap.size w W3):=Lh (a8.out.trans (a3.mono a8.out.size))
   clear a3 a1 a8
   have z1:=a7.out.d1
   have z4:=a7.out.d4
   have z5:=a7.out.d5
   have y1:=a7.out.k1
   have y4:=a7.out.k4
   cases b2 with
   | true=>
    by_cases hl:N < live
    ·have q5:decide (N < live)=true:=decide_eq_true hl
     have HL:=Lh hl
     clear hl
     go_wp2_with fail
     go_ret
     exact ⟨by rw [← a0.out]; simp [HL.out],I.out⟩
    ·have q5:decide (N < live)=false:=decide_eq_false hl
     have HL:=Lh hl
     clear hl
     cases b3 with
     | true=>
      go_wp2_with fail
      refine (a6.out _).mono ?_
      rintro e W4 ⟨rfl,G⟩
      have Y:Hid (Below w.heap.size w W4):=Lh (I.out.trans (G.mono I.out.size))
      clear G
      go_wp2_with fail
      go_ret
      exact ⟨by rw [← a0.out]; simp [HL.out],Y.out⟩
     | false=>
      go_wp2_with fail
      refine (a6.out _).mono ?_
      rintro e W4 ⟨rfl,G⟩
      have Y:Hid (Below w.heap.size w W4):=Lh (I.out.trans (G.mono I.out.size))
      clear G
      go_wp2_with fail
      go_ret
      exact ⟨by rw [← a0.out]; simp [HL.out],Y.out⟩
   | false=>
    cases b3 with
    | true=>
     go_wp2_with fail
     refine (a6.out _).mono ?_
     rintro e W4 ⟨rfl,G⟩
     have Y:Hid (Below w.heap.size w W4):=Lh (I.out.trans (G.mono I.out.size))
     clear G
     go_wp2_with fail
     go_ret
     exact ⟨by rw [← a0.out]; simp,Y.out⟩
    | false=>
     go_wp2_with fail
     refine (a6.out _).mono ?_
     rintro e W4 ⟨rfl,G⟩
     have Y:Hid (Below w.heap.size w W4):=Lh (I.out.trans (G.mono I.out.size))
     clear G
     go_wp2_with fail
     go_ret
     exact ⟨by rw [← a0.out]; simp,Y.out⟩
theorem rcdue_any (c:Cf) (h:okC c) (id now born since proved live:Int) (J:Bool) (hid:U64 id) (a9:U64 now) (ag:U64 born) (aj:U64 since) (ai:U64 proved) (w:World) :
  Calls Tryz.prog 85 #[c.v,.agg #[.int .u64 id,.int .u64 now,.int .u64 born,.int .u64 since,.int .u64 proved,.int .i64 live,.bool J]] w fun e w'=>e=.returned (.int .i64 (dueC c id now born since proved live J))∧Below w.heap.size w w':=by
 have ah:=lf_lo c h.1 id
 have ak:=Lh (fun w=>rlifeof_any c h id hid w)
 obtain ⟨b1,ac⟩:∃ b,pst now born (lf c id)=b:=⟨_,rfl⟩
 obtain ⟨b2,a2⟩:∃ b,pst now since c.idle=b:=⟨_,rfl⟩
 obtain ⟨b3,a3⟩:∃ b,pst now proved c.keep=b:=⟨_,rfl⟩
 have ae:=Lh (fun w=>rpast_any now born (lf c id) a9 ag ah w)
 have af:=Lh (fun w=>rpast_any now since c.idle a9 aj h.1.idle w)
 have a6:=Lh (fun w=>rpast_any now proved c.keep a9 ai h.1.keep w)
 rw [ac] at ae
 rw [a2] at af
 rw [a3] at a6
 have e0:dueC c id now born since proved live J=if J=true then 1 else if b1=true then 2 else if b2=true∧c.min < live then 3 else if b3=true then 4 else 0:=by
  unfold dueC; rw [ac,a2,a3]
 rw [e0]
 obtain ⟨dv,ad⟩:∃ dv:Int,(if J=true then 1 else if b1=true then 2 else if b2=true∧c.min < live then 3 else if b3=true then 4 else 0)=dv:=⟨_,rfl⟩
 rw [ad]
 have a0:=Lh ad
 generalize lf c id=L at *
 clear e0 ad ac a2 a3 ah h hid a9 ag aj ai
 obtain ⟨mx,N,il,li,kp,lk,vv⟩:=c
 have aa:Hid (Below w.heap.size w ((w.alloc (.cells #[.int .i64 mx,.int .i64 N,.int .u64 il,.int .u64 li,.int .u64 kp,.int .u64 lk,.float .f64 vv] 36)).alloc (.cells #[.int .u64 id,.int .u64 now,.int .u64 born,.int .u64 since,.int .u64 proved,.int .i64 live,.bool J] 165))):=Lh (((Below.refl _ w).alloc (Nat.le_refl _) _).alloc (by simp) _)
 have hx:Dx ((w.alloc (.cells #[.int .i64 mx,.int .i64 N,.int .u64 il,.int .u64 li,.int .u64 kp,.int .u64 lk,.float .f64 vv] 36)).alloc (.cells #[.int .u64 id,.int .u64 now,.int .u64 born,.int .u64 since,.int .u64 proved,.int .i64 live,.bool J] 165)) w.heap.size (w.heap.size+1) ⟨mx,N,il,li,kp,lk,vv⟩ id now born since proved live J:=by
  refine ⟨?_,?_,?_,?_,?_,?_,?_,?_,?_,?_,?_,?_,?_,?_⟩ <;> go_simp
 have z:=Lh hx
 clear hx
 cases J with
 | true=>
  go_enter Tryz.func85,Tryz.ntmps85
  go_upto_region 1 with (fail)
  generalize ((w.alloc (.cells #[.int .i64 mx,.int .i64 N,.int .u64 il,.int .u64 li,.int .u64 kp,.int .u64 lk,.float .f64 vv] 36)).alloc (.cells #[.int .u64 id,.int .u64 now,.int .u64 born,.int .u64 since,.int .u64 proved,.int .i64 live,.bool true] 165))=F at *
  obtain ⟨g,hg⟩:∃ g,w.heap.size=g:=⟨_,rfl⟩
  obtain ⟨W,a4⟩:∃ W,g+1=W:=⟨_,rfl⟩
  rw [hg,a4] at z
  rw [hg]
  try rw [a4]
  have a5:Hid (Below w.heap.size w F):=Lh aa.out
  clear hg a4
  have z6:=z.out.d6
  go_wp2_with fail
  clear z6
  go_ret
  exact ⟨by rw [← a0.out]; simp,a5.out⟩
 | false=>
  go_enter Tryz.func85,Tryz.ntmps85
  go_upto_region 1 with (fail)
  generalize ((w.alloc (.cells #[.int .i64 mx,.int .i64 N,.int .u64 il,.int .u64 li,.int .u64 kp,.int .u64 lk,.float .f64 vv] 36)).alloc (.cells #[.int .u64 id,.int .u64 now,.int .u64 born,.int .u64 since,.int .u64 proved,.int .i64 live,.bool false] 165))=F at *
  obtain ⟨g,hg⟩:∃ g,w.heap.size=g:=⟨_,rfl⟩
  obtain ⟨W,a4⟩:∃ W,g+1=W:=⟨_,rfl⟩
  rw [hg,a4] at z
  rw [hg]
  try rw [a4]
  have a5:Hid (Below w.heap.size w F):=Lh aa.out
  clear hg a4
  have z6:=z.out.d6
  go_wp2_with fail
  clear z6
  have i0:∀ u:After F,u.1.cell? ⟨g,0,none⟩=some (.int .i64 mx):=fun u=>u.cell z.out.k0
  have i1:∀ u:After F,u.1.cell? ⟨g,1,none⟩=some (.int .i64 N):=fun u=>u.cell z.out.k1
  have i2:∀ u:After F,u.1.cell? ⟨g,2,none⟩=some (.int .u64 il):=fun u=>u.cell z.out.k2
  have i3:∀ u:After F,u.1.cell? ⟨g,3,none⟩=some (.int .u64 li):=fun u=>u.cell z.out.k3
  have i4:∀ u:After F,u.1.cell? ⟨g,4,none⟩=some (.int .u64 kp):=fun u=>u.cell z.out.k4
  have i5:∀ u:After F,u.1.cell? ⟨g,5,none⟩=some (.int .u64 lk):=fun u=>u.cell z.out.k5
  have i6:∀ u:After F,u.1.cell? ⟨g,6,none⟩=some (.float .f64 vv):=fun u=>u.cell z.out.k6
  have j0:∀ u:After F,u.1.cell? ⟨W,0,none⟩=some (.int .u64 id):=fun u=>u.cell z.out.d0
  have j1:∀ u:After F,u.1.cell? ⟨W,1,none⟩=some (.int .u64 now):=fun u=>u.cell z.out.d1
  have j2:∀ u:After F,u.1.cell? ⟨W,2,none⟩=some (.int .u64 born):=fun u=>u.cell z.out.d2
  refine region_after (by kernel_rfl) (by kernel_rfl) ?_
  repeat (go_big_quiet_step (first
   | (go_at_call 157; exact After.call (ak.out _))
   | (go_at_call 156; exact After.call (ae.out _))))
  refine wpQuiet_nil ?_
  rintro W2 ⟨⟨_,a2⟩,rfl⟩
  clear i0 i1 i2 i3 i4 i5 i6 j0 j1 j2
  have a1:=Lh (z.out.later a2)
  have a8:Hid (Below w.heap.size w W2):=Lh (a5.out.trans (a2.mono a5.out.size))
  clear a2 z a5 aa
  cases b1 with
  | true=>
   go_wp2_with fail
   go_ret
   exact ⟨by rw [← a0.out]; simp,a8.out⟩
  | false=>
   have z1:=a1.out.d1
   have z3:=a1.out.d3
   have z5:=a1.out.d5
   have y1:=a1.out.k1
   have y2:=a1.out.k2
   go_wp2_with fail
   clear z1 z3 z5 y1 y2
   refine (af.out _).mono ?_
   rintro e W3 ⟨rfl,a3⟩
   have a7:=Lh (a1.out.later a3)
   have I:Hid (Below w.heap.size w W3):=Lh (a8.out.trans (a3.mono a8.out.size))
   clear a3 a1 a8
   have z1:=a7.out.d1
   have z4:=a7.out.d4
   have z5:=a7.out.d5
   have y1:=a7.out.k1
   have y4:=a7.out.k4
   cases b2 with
   | true=>
    by_cases hl:N < live
    ·have q5:decide (N < live)=true:=decide_eq_true hl
     have HL:=Lh hl
     clear hl
     go_wp2_with fail
     go_ret
     exact ⟨by rw [← a0.out]; simp [HL.out],I.out⟩
    ·have q5:decide (N < live)=false:=decide_eq_false hl
     have HL:=Lh hl
     clear hl
     cases b3 with
     | true=>
      go_wp2_with fail
      refine (a6.out _).mono ?_
      rintro e W4 ⟨rfl,G⟩
      have Y:Hid (Below w.heap.size w W4):=Lh (I.out.trans (G.mono I.out.size))
      clear G
      go_wp2_with fail
      go_ret
      exact ⟨by rw [← a0.out]; simp [HL.out],Y.out⟩
     | false=>
      go_wp2_with fail
      refine (a6.out _).mono ?_
      rintro e W4 ⟨rfl,G⟩
      have Y:Hid (Below w.heap.size w W4):=Lh (I.out.trans (G.mono I.out.size))
      clear G
      go_wp2_with fail
      go_ret
      exact ⟨by rw [← a0.out]; simp [HL.out],Y.out⟩
   | false=>
    cases b3 with
    | true=>
     go_wp2_with fail
     refine (a6.out _).mono ?_
     rintro e W4 ⟨rfl,G⟩
     have Y:Hid (Below w.heap.size w W4):=Lh (I.out.trans (G.mono I.out.size))
     clear G
     go_wp2_with fail
     go_ret
     exact ⟨by rw [← a0.out]; simp,Y.out⟩
    | false=>
     go_wp2_with fail
     refine (a6.out _).mono ?_
     rintro e W4 ⟨rfl,G⟩
     have Y:Hid (Below w.heap.size w W4):=Lh (I.out.trans (G.mono I.out.size))
     clear G
     go_wp2_with fail
     go_ret
     exact ⟨by rw [← a0.out]; simp,Y.out⟩
end Go.Proofs.YtaeemilldmhbnaaGreatDoor.Cn
