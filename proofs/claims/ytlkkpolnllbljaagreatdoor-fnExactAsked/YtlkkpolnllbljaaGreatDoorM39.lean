/- A house that is asked, by the program: Asked. -/
import Derived.Test.YtlkkpolnllbljaaGreatDoorM38
import Derived.Test.YtlkkpolnllbljaaGreatDoorM16
import Derived.Test.YtlkkpolnllbljaaGreatDoorM32
import Derived.Test.YtlkkpolnllbljaaGreatDoorM26
import Derived.Test.YtlkkpolnllbljaaGreatDoorM18
import Derived.LaidMore
import Derived.Stop.Joined
import Derived.Stop.LaidErr
import Derived.Lib.LaidTab
import Derived.ProofKit
import Derived.Test.YtlkkpolnllbljaaGreatDoorM36
import Derived.LaidHandle
import Derived.OpenVars
import Derived.Lay
import Derived.Lib.LaidIn
namespace Go.Proofs.YtlkkpolnllbljaaGreatDoor
open Go.ChangeShapes Go.WideShapes Go.ChangeAt Go.RowKit

def Nd.askP (n : Nd) (who : Int) (b : Bs) : Nd × An :=
  if n.ok then (if n.up && inI who 0 3 then (if codeC b = 0 then (if n.r.s = 2 then (n, ⟨5, []⟩) else if n.r.s = 3 then (n, ⟨6, []⟩) else n.cmd who (readC b)) else (n, ⟨4, decI (codeC b)⟩)) else (n, ⟨7, []⟩)) else (Nd.zero, ⟨7, []⟩)
/- What stands while a house is asked. -/
structure AnS (w wx : World) (cs : Array Value) : Prop where
  p : StB wx w.heap.size 42 cs
  r : StB wx (w.heap.size + 1) 42 zeroNd
  ra : StB wx (w.heap.size + 1 + 1) 44 (anA ⟨0, []⟩)
  b : Below w.heap.size w wx
theorem AnS.start (w : World) (cs : Array Value) : AnS w (((w.alloc (.cells cs 42)).alloc (.cells zeroNd 42)).alloc (.cells (anA ⟨0, []⟩) 44)) cs := by
  have r2 := StB.new (w.alloc (.cells cs 42)) 42 zeroNd
  rw [World.size_alloc] at r2
  have r3 := StB.new ((w.alloc (.cells cs 42)).alloc (.cells zeroNd 42)) 44 (anA ⟨0, []⟩)
  rw [World.size_alloc, World.size_alloc] at r3
  exact ⟨((StB.new w _ _).alloc _).alloc _, r2.alloc _, r3, (((Below.refl _ _).alloc (Nat.le_refl _) _).alloc (by simp) _).alloc (by simp; omega) _⟩
theorem AnS.below {w wx wy : World} {cs : Array Value} (h : AnS w wx cs) (B : Below wx.heap.size wx wy) : AnS w wy cs := ⟨h.p.below B, h.r.below B, h.ra.below B, h.b.trans (B.mono h.b.size)⟩
theorem AnS.lt {w wx : World} {cs : Array Value} (h : AnS w wx cs) : w.heap.size + 3 ≤ wx.heap.size := h.ra.lt
theorem AnS.fin {w wx wy wz : World} {cs : Array Value} {a b k q z : Value} {n : Nd} (h : AnS w wx cs) (o : MineN wx (w.heap.size + 3) a b k q z n) (g1 : wx.grownBy wy (some (w.heap.size + 1))) (g2 : wy.grownBy wz (some (w.heap.size + 1 + 1))) : MineN wz w.heap.size a b k q z n ∧ Below w.heap.size w wz := by
  have b1 := h.b.grown g1 h.b.size (fun k e => by cases e; omega)
  exact ⟨((o.keptLt g1 (by omega)).keptLt g2 (by omega)).mono (by omega), b1.grown g2 b1.size (fun k e => by cases e; omega)⟩
theorem ndA_inj {a b k q z a' b' k' q' z' : Value} {n : Nd} (h : ndA a b k q z n = ndA a' b' k' q' z' n) : a = a' ∧ b = b' ∧ k = k' ∧ q = q' ∧ z = z' := by
  simp only [ndA] at h
  have g : ∀ j : Nat, _ := fun j => congrArg (fun cs : Array Value => cs[j]?) h
  have h2 := g 2
  have h3 := g 3
  have h4 := g 4
  have h17 := g 17
  have h19 := g 19
  simp at h2 h3 h4 h17 h19
  exact ⟨h2, h3, h4, h17, h19⟩
/- A house that is answered, all its own. -/
def mnG (m : Nat) (n : Nd) : GSpec :=
  ⟨fun u => ∃ a1 a2 b1 b2 k1 k2 q1 q2 z1 z2, u = .agg (ndA (.slice a1 n.xs.length a2) (.slice b1 n.ys.length b2) (.slice k1 n.h.ks.length k2) (.slice q1 n.c.ts.length q2) (.slice z1 n.s.ts.length z2) n),
   fun u w => ∃ a b k q z, u = .agg (ndA a b k q z n) ∧ MineN w m a b k q z n⟩
theorem mnG_later {m : Nat} {n : Nd} {u : Value} {x y : World} (hx : (mnG m n).F u x) (hl : Later x y) : (mnG m n).F u y := by
  obtain ⟨a, b, k, q, z, e, h⟩ := hx
  exact ⟨a, b, k, q, z, e, h.below hl⟩
theorem mnG_at {m : Nat} {n : Nd} {a b k q z : Value} {w : World} (h : (mnG m n).F (.agg (ndA a b k q z n)) w) : MineN w m a b k q z n := by
  obtain ⟨a', b', k', q', z', e, h⟩ := h
  obtain ⟨rfl, rfl, rfl, rfl, rfl⟩ := ndA_inj (congrArg (fun v => match v with | .agg cs => cs | _ => #[]) e)
  exact h
theorem mnG_of {P : Program} {f : FuncId} {args : Array Value} {w : World} {m : Nat} {n : Nd} (hm : m ≤ w.heap.size) (h : Calls P f args w fun e w' => ∃ a b k q z, e = .returned (.agg (ndA a b k q z n)) ∧ MineN w' w.heap.size a b k q z n ∧ Below w.heap.size w w') : Calls P f args w (fun e w'' => ∃ u, e = .returned u ∧ (mnG m n).V u ∧ (mnG m n).F u w'' ∧ Later w w'') := by
  refine h.mono ?_
  rintro e w' ⟨a, b, k, q, z, rfl, o, bl⟩
  obtain ⟨a1, a2, rfl⟩ := reads_form o.reads.ra
  obtain ⟨b1, b2, rfl⟩ := reads_form o.reads.rb
  obtain ⟨k1, k2, rfl⟩ := reads_form o.reads.rk
  obtain ⟨q1, q2, rfl⟩ := reads_form o.reads.rq
  obtain ⟨z1, z2, rfl⟩ := reads_form o.reads.rz
  exact ⟨_, rfl, ⟨a1, a2, b1, b2, k1, k2, q1, q2, z1, z2, rfl⟩, ⟨_, _, _, _, _, rfl, o.mono hm⟩, bl⟩
/- A house and an answer. -/
def cmG (m : Nat) (y : Nd × An) : GSpec :=
  ⟨fun u => ∃ a1 a2 b1 b2 k1 k2 q1 q2 z1 z2, u = .tuple #[.agg (ndA (.slice a1 y.1.xs.length a2) (.slice b1 y.1.ys.length b2) (.slice k1 y.1.h.ks.length k2) (.slice q1 y.1.c.ts.length q2) (.slice z1 y.1.s.ts.length z2) y.1), .agg (anA y.2)],
   fun u w => ∃ a b k q z, u = .tuple #[.agg (ndA a b k q z y.1), .agg (anA y.2)] ∧ MineN w m a b k q z y.1⟩
theorem cmG_later {m : Nat} {n : Nd × An} {u : Value} {x y : World} (hx : (cmG m n).F u x) (hl : Later x y) : (cmG m n).F u y := by
  obtain ⟨a, b, k, q, z, e, h⟩ := hx
  exact ⟨a, b, k, q, z, e, h.below hl⟩
theorem cmG_at {m : Nat} {y : Nd × An} {a b k q z : Value} {w : World} (h : (cmG m y).F (.tuple #[.agg (ndA a b k q z y.1), .agg (anA y.2)]) w) : MineN w m a b k q z y.1 := by
  obtain ⟨a', b', k', q', z', e, h⟩ := h
  have e' : ndA a b k q z y.1 = ndA a' b' k' q' z' y.1 := by
    injection e with e1
    have e2 := congrArg (fun vs : Array Value => vs[0]?) e1
    simp only [List.getElem?_toArray, List.getElem?_cons_zero, Option.some.injEq] at e2
    injection e2
  obtain ⟨rfl, rfl, rfl, rfl, rfl⟩ := ndA_inj e'
  exact h
theorem cmG_of {P : Program} {f : FuncId} {args : Array Value} {w : World} {m : Nat} {y : Nd × An} {z : Value} (h : Calls P f args w fun e w' => ∃ a b k q, e = .returned (.tuple #[.agg (ndA a b k q z y.1), .agg (anA y.2)]) ∧ MineN w' m a b k q z y.1 ∧ Below w.heap.size w w') : Calls P f args w (fun e w'' => ∃ u, e = .returned u ∧ (cmG m y).V u ∧ (cmG m y).F u w'' ∧ Later w w'') := by
  refine h.mono ?_
  rintro e w' ⟨a, b, k, q, rfl, o, bl⟩
  obtain ⟨a1, a2, rfl⟩ := reads_form o.reads.ra
  obtain ⟨b1, b2, rfl⟩ := reads_form o.reads.rb
  obtain ⟨k1, k2, rfl⟩ := reads_form o.reads.rk
  obtain ⟨q1, q2, rfl⟩ := reads_form o.reads.rq
  obtain ⟨z1, z2, rfl⟩ := reads_form o.reads.rz
  exact ⟨_, rfl, ⟨a1, a2, b1, b2, k1, k2, q1, q2, z1, z2, rfl⟩, ⟨_, _, _, _, _, rfl, o⟩, bl⟩

set_option maxRecDepth 20000 in
set_option maxHeartbeats 8000000 in
theorem iAsked_any (a b k q z : Value) (n : Nd) (i : Int) (bs : Bs) (w : World) (hr : RdN w a b k q z n) (hl : SmN n) (hb : bs.length ≤ 1048576) (ht : TabS w) :
    Calls Tryz.prog 7 #[NdV a b k q z n, .int .i64 i, S bs] w fun e w' => ∃ a' b' k' q' z', e = .returned (.tuple #[NdV a' b' k' q' z' (n.askP i bs).1, AV (n.askP i bs).2]) ∧ MineN w' w.heap.size a' b' k' q' z' (n.askP i bs).1 ∧ Below w.heap.size w w' := by
  have HR : Hid (∀ wx, Below w.heap.size w wx → RdN wx a b k q z n) := fun wx B => hr.below B
  have CN : Hid (∀ wx, Below w.heap.size w wx → Calls Tryz.prog 24 #[NdV a b k q z n] wx fun e w' => e = .returned (.bool n.ok) ∧ Below wx.heap.size wx w') := fun wx B => inodeok_any a b k q z n wx (HR.out wx B) hl (ht.1.below B)
  have CF : Hid (n.ok = true → ∀ wx, Below w.heap.size w wx → Calls Tryz.prog 27 #[NdV a b k q z n] wx fun e w' => ∃ a' b' k' q' z', e = .returned (NdV a' b' k' q' z' n) ∧ MineN w' wx.heap.size a' b' k' q' z' n ∧ Below wx.heap.size wx w') := fun ok wx B => by
    have h := ((Nd.ok_iff n).1 ok).small
    exact ifreshN_any a b k q z n wx (HR.out wx B) hl h.1 h.2.1 h.2.2
  have CR : Hid (∀ wx, Calls Tryz.prog 25 #[S bs] wx fun e w' => e = .returned (.tuple #[CV (readC bs), .int .i64 (codeC bs)]) ∧ Below wx.heap.size wx w') := fun wx => ireadC_any bs wx hb
  have CP : Hid (∀ wx, Calls Tryz.prog 26 #[.int .i64 i] wx fun e w' => e = .returned (.bool (inI i 0 3)) ∧ w' = wx) := fun wx => iperson_any i wx
  have CH : Hid (∀ u' wx, Reads wx u' [codeC bs] → Below w.heap.size w wx → Calls Tryz.prog 28 #[u'] wx fun e w' => e = .returned (S (decI (codeC bs))) ∧ Below wx.heap.size wx w') := fun u' wx hr B => by
    have := ishowN_any u' [codeC bs] wx hr (by simp) (by simp) (by intro x hx; simp at hx; subst hx; rcases codeC_cases bs with h | h | h | h <;> omega) (ht.1.below B)
    rw [ints_one] at this
    exact this
  have CC : Hid (∀ wx a b k q z, Below w.heap.size w wx → ∀ base, base ≤ wx.heap.size → MineN wx base a b k q z n → Calls Tryz.prog 29 #[NdV a b k q z n, .int .i64 i, CV (readC bs)] wx fun e w' => ∃ a' b' k' q', e = .returned (.tuple #[NdV a' b' k' q' z (n.cmd i (readC bs)).1, AV (n.cmd i (readC bs)).2]) ∧ MineN w' base a' b' k' q' z (n.cmd i (readC bs)).1 ∧ Below wx.heap.size wx w') := fun wx a b k q z B base hb hm => icmdN_any a b k q z n i (readC bs) wx base hm hb hl (ht.below B)
  have HE : Hid (n.askP i bs = if n.ok then (if n.up && inI i 0 3 then (if codeC bs = 0 then (if n.r.s = 2 then (n, ⟨5, []⟩) else if n.r.s = 3 then (n, ⟨6, []⟩) else n.cmd i (readC bs)) else (n, ⟨4, decI (codeC bs)⟩)) else (n, ⟨7, []⟩)) else (Nd.zero, ⟨7, []⟩)) := rfl
  obtain ⟨x, hx⟩ : ∃ x, x = n.askP i bs := ⟨_, rfl⟩
  rw [← hx] at HE ⊢
  clear hx
  obtain ⟨y, hy⟩ : ∃ y, y = n.cmd i (readC bs) := ⟨_, rfl⟩
  rw [← hy] at HE CC
  clear hy
  obtain ⟨cd, hcd⟩ : ∃ cd, cd = codeC bs := ⟨_, rfl⟩
  rw [← hcd] at HE CR CH
  clear hcd
  obtain ⟨c, hc⟩ : ∃ c, c = readC bs := ⟨_, rfl⟩
  rw [← hc] at CC CR
  clear hc
  obtain ⟨tx, htx⟩ : ∃ tx, tx = decI cd := ⟨_, rfl⟩
  rw [← htx] at HE CH
  clear htx
  obtain ⟨io, hio⟩ : ∃ io, io = inI i 0 3 := ⟨_, rfl⟩
  rw [← hio] at HE CP
  clear hio
  obtain ⟨ao, ac, rfl⟩ := reads_form hr.ra
  obtain ⟨bo, bc, rfl⟩ := reads_form hr.rb
  obtain ⟨ko, kc, rfl⟩ := reads_form hr.rk
  obtain ⟨qo, qc, rfl⟩ := reads_form hr.rq
  obtain ⟨zo, zc, rfl⟩ := reads_form hr.rz
  obtain ⟨w1, hw1⟩ : ∃ w1, w1 = ((w.alloc (.cells (ndA (.slice ao n.xs.length ac) (.slice bo n.ys.length bc) (.slice ko n.h.ks.length kc) (.slice qo n.c.ts.length qc) (.slice zo n.s.ts.length zc) n) 42)).alloc (.cells zeroNd 42)).alloc (.cells (anA ⟨0, []⟩) 44) := ⟨_, rfl⟩
  have HF : Hid (AnS w w1 (ndA (.slice ao n.xs.length ac) (.slice bo n.ys.length bc) (.slice ko n.h.ks.length kc) (.slice qo n.c.ts.length qc) (.slice zo n.s.ts.length zc) n)) := by rw [hw1]; exact AnS.start w _
  clear hr HR hl ht hb
  unfold ndA zeroNd anA S at hw1
  unfold NdV at CN CF CC ⊢
  unfold CV AV at CC
  unfold CV cmA S at CR
  unfold S at CH ⊢
  conv in ndA (.slice ao n.xs.length ac) _ _ _ _ _ => unfold ndA S
  go_enter Tryz.func7, Tryz.ntmps7
  go_upto_region 1 with fail
  rw [← hw1]
  clear hw1
  go_wp2_with (refine wpList_getS Tryz.isNd rfl _ rfl w.heap.size rfl (ndA (.slice ao n.xs.length ac) (.slice bo n.ys.length bc) (.slice ko n.h.ks.length kc) (.slice qo n.c.ts.length qc) (.slice zo n.s.ts.length zc) n) rfl HF.out.p ?_)
  refine (CN.out w1 HF.out.b).mono ?_
  rintro e w2 ⟨rfl, b2⟩
  replace HF : Hid (AnS w w2 (ndA (.slice ao n.xs.length ac) (.slice bo n.ys.length bc) (.slice ko n.h.ks.length kc) (.slice qo n.c.ts.length qc) (.slice zo n.s.ts.length zc) n)) := HF.out.below b2
  clear b2 CN
  cases hk : n.ok with
  | false =>
    have HX : Hid (x = (Nd.zero, ⟨7, []⟩)) := by rw [Hid, HE.out, hk]; rfl
    clear HE CF CR CP CH CC hk
    go_wp2_with (first | (refine wpList_putS Tryz.isNd rfl _ _ rfl (w.heap.size + 1) zeroNd zeroNd rfl rfl rfl rfl zeroNd_one HF.out.r ?_; intro w19 s19 g19) | (refine wpList_putS Tryz.isA rfl _ _ rfl (w.heap.size + 1 + 1) (anA ⟨7, []⟩) (anA ⟨0, []⟩) rfl rfl rfl rfl (anA_one _) (HF.out.ra.kept g19 (by simp)) ?_; intro w20 s20 g20))
    refine bodyPost_ret (results_NA rfl _ _ (w.heap.size + 1) (w.heap.size + 1 + 1) _ _ rfl rfl rfl rfl (s19.kept g20 (by simp)) s20) rfl ?_
    rw [HX.out]
    exact ⟨_, _, _, _, _, rfl, HF.out.fin (MineN.nil _ _) g19 g20⟩
  | true =>
    have HK : Hid (n.ok = true) := hk
    have HX : Hid (x = if n.up && io then (if cd = 0 then (if n.r.s = 2 then (n, ⟨5, []⟩) else if n.r.s = 3 then (n, ⟨6, []⟩) else y) else (n, ⟨4, tx⟩)) else (n, ⟨7, []⟩)) := by rw [Hid, HE.out, hk]; rfl
    clear HE hk
    go_wp2_with fail
    refine (CR.out w2).mono ?_
    rintro e w3 ⟨rfl, b3⟩
    obtain ⟨w4, hw4⟩ : ∃ w4, w4 = w3.alloc (.cells (cmA c) 66) := ⟨_, rfl⟩
    have b4 : Below w3.heap.size w3 w4 := by rw [hw4]; exact (Below.refl _ _).alloc (Nat.le_refl _) _
    replace HF : Hid (AnS w w4 (ndA (.slice ao n.xs.length ac) (.slice bo n.ys.length bc) (.slice ko n.h.ks.length kc) (.slice qo n.c.ts.length qc) (.slice zo n.s.ts.length zc) n)) := (HF.out.below b3).below b4
    have V : Hid (StB w4 w3.heap.size 66 (cmA c)) := by rw [hw4]; exact StB.new _ _ _
    unfold cmA at hw4
    go_upto_region 4 with fail
    rw [← hw4]
    clear hw4 b3 b4 CR
    obtain ⟨g8, hg8⟩ : ∃ g8, g8 = w3.heap.size := ⟨_, rfl⟩
    rw [← hg8] at V ⊢
    clear hg8
    have p1 : w4.cell? ⟨w.heap.size, 1, none⟩ = some (.bool n.up) := HF.out.p.cell 1 rfl
    cases hu : n.up with
    | false =>
      have HY : Hid (x = (n, ⟨7, []⟩)) := by rw [Hid, HX.out, hu]; rfl
      rw [hu] at p1
      clear HX hu CC CH CP
      go_upto_region 5 with fail
      clear p1
      go_wp2_with (refine wpList_getS Tryz.isNd rfl _ rfl w.heap.size rfl (ndA (.slice ao n.xs.length ac) (.slice bo n.ys.length bc) (.slice ko n.h.ks.length kc) (.slice qo n.c.ts.length qc) (.slice zo n.s.ts.length zc) n) rfl HF.out.p ?_)
      refine (CF.out HK.out w4 HF.out.b).mono ?_
      rintro e w9 ⟨a', b', k', q', z', rfl, o3, b3⟩
      obtain ⟨a1, a2, rfl⟩ := reads_form o3.reads.ra
      obtain ⟨b1, b2, rfl⟩ := reads_form o3.reads.rb
      obtain ⟨k1, k2, rfl⟩ := reads_form o3.reads.rk
      obtain ⟨q1, q2, rfl⟩ := reads_form o3.reads.rq
      obtain ⟨z1, z2, rfl⟩ := reads_form o3.reads.rz
      have O : Hid (MineN w9 (w.heap.size + 3) (.slice a1 n.xs.length a2) (.slice b1 n.ys.length b2) (.slice k1 n.h.ks.length k2) (.slice q1 n.c.ts.length q2) (.slice z1 n.s.ts.length z2) n) := o3.mono HF.out.lt
      replace HF : Hid (AnS w w9 (ndA (.slice ao n.xs.length ac) (.slice bo n.ys.length bc) (.slice ko n.h.ks.length kc) (.slice qo n.c.ts.length qc) (.slice zo n.s.ts.length zc) n)) := HF.out.below b3
      clear o3 b3 CF
      go_wp2_with (first | (refine wpList_putS Tryz.isNd rfl _ _ rfl (w.heap.size + 1) (ndA (.slice a1 n.xs.length a2) (.slice b1 n.ys.length b2) (.slice k1 n.h.ks.length k2) (.slice q1 n.c.ts.length q2) (.slice z1 n.s.ts.length z2) n) zeroNd rfl rfl rfl rfl (ndA_one _ rfl rfl rfl rfl rfl) HF.out.r ?_; intro w19 s19 g19) | (refine wpList_putS Tryz.isA rfl _ _ rfl (w.heap.size + 1 + 1) (anA ⟨7, []⟩) (anA ⟨0, []⟩) rfl rfl rfl rfl (anA_one _) (HF.out.ra.kept g19 (by simp)) ?_; intro w20 s20 g20))
      refine bodyPost_ret (results_NA rfl _ _ (w.heap.size + 1) (w.heap.size + 1 + 1) _ _ rfl rfl rfl rfl (s19.kept g20 (by simp)) s20) rfl ?_
      rw [HY.out]
      exact ⟨_, _, _, _, _, rfl, HF.out.fin O.out g19 g20⟩
    | true =>
      rw [hu] at p1
      replace HX : Hid (x = if io then (if cd = 0 then (if n.r.s = 2 then (n, ⟨5, []⟩) else if n.r.s = 3 then (n, ⟨6, []⟩) else y) else (n, ⟨4, tx⟩)) else (n, ⟨7, []⟩)) := by rw [Hid, HX.out, hu]; rfl
      clear hu
      go_wp2_with fail
      refine (CP.out w4).mono ?_
      rintro e w' ⟨rfl, hw⟩; subst w'
      clear CP
      cases io with
      | false =>
        have HY : Hid (x = (n, ⟨7, []⟩)) := HX.out
        clear HX CC CH
        go_upto_region 5 with fail
        clear p1
        go_wp2_with (refine wpList_getS Tryz.isNd rfl _ rfl w.heap.size rfl (ndA (.slice ao n.xs.length ac) (.slice bo n.ys.length bc) (.slice ko n.h.ks.length kc) (.slice qo n.c.ts.length qc) (.slice zo n.s.ts.length zc) n) rfl HF.out.p ?_)
        refine (CF.out HK.out w4 HF.out.b).mono ?_
        rintro e w9 ⟨a', b', k', q', z', rfl, o3, b3⟩
        obtain ⟨a1, a2, rfl⟩ := reads_form o3.reads.ra
        obtain ⟨b1, b2, rfl⟩ := reads_form o3.reads.rb
        obtain ⟨k1, k2, rfl⟩ := reads_form o3.reads.rk
        obtain ⟨q1, q2, rfl⟩ := reads_form o3.reads.rq
        obtain ⟨z1, z2, rfl⟩ := reads_form o3.reads.rz
        have O : Hid (MineN w9 (w.heap.size + 3) (.slice a1 n.xs.length a2) (.slice b1 n.ys.length b2) (.slice k1 n.h.ks.length k2) (.slice q1 n.c.ts.length q2) (.slice z1 n.s.ts.length z2) n) := o3.mono HF.out.lt
        replace HF : Hid (AnS w w9 (ndA (.slice ao n.xs.length ac) (.slice bo n.ys.length bc) (.slice ko n.h.ks.length kc) (.slice qo n.c.ts.length qc) (.slice zo n.s.ts.length zc) n)) := HF.out.below b3
        clear o3 b3 CF
        go_wp2_with (first | (refine wpList_putS Tryz.isNd rfl _ _ rfl (w.heap.size + 1) (ndA (.slice a1 n.xs.length a2) (.slice b1 n.ys.length b2) (.slice k1 n.h.ks.length k2) (.slice q1 n.c.ts.length q2) (.slice z1 n.s.ts.length z2) n) zeroNd rfl rfl rfl rfl (ndA_one _ rfl rfl rfl rfl rfl) HF.out.r ?_; intro w19 s19 g19) | (refine wpList_putS Tryz.isA rfl _ _ rfl (w.heap.size + 1 + 1) (anA ⟨7, []⟩) (anA ⟨0, []⟩) rfl rfl rfl rfl (anA_one _) (HF.out.ra.kept g19 (by simp)) ?_; intro w20 s20 g20))
        refine bodyPost_ret (results_NA rfl _ _ (w.heap.size + 1) (w.heap.size + 1 + 1) _ _ rfl rfl rfl rfl (s19.kept g20 (by simp)) s20) rfl ?_
        rw [HY.out]
        exact ⟨_, _, _, _, _, rfl, HF.out.fin O.out g19 g20⟩
      | true =>
        replace HX : Hid (x = (if cd = 0 then (if n.r.s = 2 then (n, ⟨5, []⟩) else if n.r.s = 3 then (n, ⟨6, []⟩) else y) else (n, ⟨4, tx⟩))) := HX.out
        by_cases hcd : cd = 0
        · clear CH
          replace HX : Hid (x = (if n.r.s = 2 then (n, ⟨5, []⟩) else if n.r.s = 3 then (n, ⟨6, []⟩) else y)) := by rw [Hid, HX.out, if_pos hcd]
          have p10 : w4.cell? ⟨w.heap.size, 10, none⟩ = some (.int .i64 n.r.s) := HF.out.p.cell 10 rfl
          by_cases h2 : n.r.s = 2
          · have HY : Hid (x = (n, ⟨5, []⟩)) := by rw [Hid, HX.out, if_pos h2]
            rw [h2] at p10
            clear HX CC
            go_upto_region 9 with fail
            clear p1 p10 h2
            go_wp2_with (refine wpList_getS Tryz.isNd rfl _ rfl w.heap.size rfl (ndA (.slice ao n.xs.length ac) (.slice bo n.ys.length bc) (.slice ko n.h.ks.length kc) (.slice qo n.c.ts.length qc) (.slice zo n.s.ts.length zc) n) rfl HF.out.p ?_)
            refine (CF.out HK.out w4 HF.out.b).mono ?_
            rintro e w9 ⟨a', b', k', q', z', rfl, o3, b3⟩
            obtain ⟨a1, a2, rfl⟩ := reads_form o3.reads.ra
            obtain ⟨b1, b2, rfl⟩ := reads_form o3.reads.rb
            obtain ⟨k1, k2, rfl⟩ := reads_form o3.reads.rk
            obtain ⟨q1, q2, rfl⟩ := reads_form o3.reads.rq
            obtain ⟨z1, z2, rfl⟩ := reads_form o3.reads.rz
            have O : Hid (MineN w9 (w.heap.size + 3) (.slice a1 n.xs.length a2) (.slice b1 n.ys.length b2) (.slice k1 n.h.ks.length k2) (.slice q1 n.c.ts.length q2) (.slice z1 n.s.ts.length z2) n) := o3.mono HF.out.lt
            replace HF : Hid (AnS w w9 (ndA (.slice ao n.xs.length ac) (.slice bo n.ys.length bc) (.slice ko n.h.ks.length kc) (.slice qo n.c.ts.length qc) (.slice zo n.s.ts.length zc) n)) := HF.out.below b3
            clear o3 b3 CF
            go_wp2_with (first | (refine wpList_putS Tryz.isNd rfl _ _ rfl (w.heap.size + 1) (ndA (.slice a1 n.xs.length a2) (.slice b1 n.ys.length b2) (.slice k1 n.h.ks.length k2) (.slice q1 n.c.ts.length q2) (.slice z1 n.s.ts.length z2) n) zeroNd rfl rfl rfl rfl (ndA_one _ rfl rfl rfl rfl rfl) HF.out.r ?_; intro w19 s19 g19) | (refine wpList_putS Tryz.isA rfl _ _ rfl (w.heap.size + 1 + 1) (anA ⟨5, []⟩) (anA ⟨0, []⟩) rfl rfl rfl rfl (anA_one _) (HF.out.ra.kept g19 (by simp)) ?_; intro w20 s20 g20))
            refine bodyPost_ret (results_NA rfl _ _ (w.heap.size + 1) (w.heap.size + 1 + 1) _ _ rfl rfl rfl rfl (s19.kept g20 (by simp)) s20) rfl ?_
            rw [HY.out]
            exact ⟨_, _, _, _, _, rfl, HF.out.fin O.out g19 g20⟩
          by_cases h3 : n.r.s = 3
          · have HY : Hid (x = (n, ⟨6, []⟩)) := by rw [Hid, HX.out, if_neg h2, if_pos h3]
            rw [h3] at p10
            clear HX CC
            go_upto_region 11 with fail
            clear p1 p10 h2 h3
            go_wp2_with (refine wpList_getS Tryz.isNd rfl _ rfl w.heap.size rfl (ndA (.slice ao n.xs.length ac) (.slice bo n.ys.length bc) (.slice ko n.h.ks.length kc) (.slice qo n.c.ts.length qc) (.slice zo n.s.ts.length zc) n) rfl HF.out.p ?_)
            refine (CF.out HK.out w4 HF.out.b).mono ?_
            rintro e w9 ⟨a', b', k', q', z', rfl, o3, b3⟩
            obtain ⟨a1, a2, rfl⟩ := reads_form o3.reads.ra
            obtain ⟨b1, b2, rfl⟩ := reads_form o3.reads.rb
            obtain ⟨k1, k2, rfl⟩ := reads_form o3.reads.rk
            obtain ⟨q1, q2, rfl⟩ := reads_form o3.reads.rq
            obtain ⟨z1, z2, rfl⟩ := reads_form o3.reads.rz
            have O : Hid (MineN w9 (w.heap.size + 3) (.slice a1 n.xs.length a2) (.slice b1 n.ys.length b2) (.slice k1 n.h.ks.length k2) (.slice q1 n.c.ts.length q2) (.slice z1 n.s.ts.length z2) n) := o3.mono HF.out.lt
            replace HF : Hid (AnS w w9 (ndA (.slice ao n.xs.length ac) (.slice bo n.ys.length bc) (.slice ko n.h.ks.length kc) (.slice qo n.c.ts.length qc) (.slice zo n.s.ts.length zc) n)) := HF.out.below b3
            clear o3 b3 CF
            go_wp2_with (first | (refine wpList_putS Tryz.isNd rfl _ _ rfl (w.heap.size + 1) (ndA (.slice a1 n.xs.length a2) (.slice b1 n.ys.length b2) (.slice k1 n.h.ks.length k2) (.slice q1 n.c.ts.length q2) (.slice z1 n.s.ts.length z2) n) zeroNd rfl rfl rfl rfl (ndA_one _ rfl rfl rfl rfl rfl) HF.out.r ?_; intro w19 s19 g19) | (refine wpList_putS Tryz.isA rfl _ _ rfl (w.heap.size + 1 + 1) (anA ⟨6, []⟩) (anA ⟨0, []⟩) rfl rfl rfl rfl (anA_one _) (HF.out.ra.kept g19 (by simp)) ?_; intro w20 s20 g20))
            refine bodyPost_ret (results_NA rfl _ _ (w.heap.size + 1) (w.heap.size + 1 + 1) _ _ rfl rfl rfl rfl (s19.kept g20 (by simp)) s20) rfl ?_
            rw [HY.out]
            exact ⟨_, _, _, _, _, rfl, HF.out.fin O.out g19 g20⟩
          have HY : Hid (x = y) := by rw [Hid, HX.out, if_neg h2, if_neg h3]
          clear HX
          go_upto_region 12 with fail
          clear p1 p10 h2 h3 hcd
          obtain ⟨C, hCd⟩ : ∃ C, C = fun x => Below w4.heap.size w4 x := ⟨_, rfl⟩
          have HQ : Hid (∀ x, C x → Below w4.heap.size w4 x) := by rw [hCd]; exact fun _ h => h
          have HN : Hid (∀ x y, C x → Later x y → C y) := by rw [hCd]; exact fun _ _ h b => h.trans (b.mono h.size)
          have H0 : Hid (C w4.drew) := by rw [hCd]; exact (Below.refl _ _).drew
          have hne : Nonempty (Kin C) := ⟨⟨_, H0.out⟩⟩
          clear hCd
          refine wp_region_gs_last3 (C := C) (E := byDst fun d => if d = 58 then some (mnG w4.heap.size n) else if d = 61 then some (cmG w4.heap.size y) else none) (R := Later) HN.out (byDst_later (by intro d s hs u x y hx hl; split at hs; (cases hs; exact mnG_later hx hl); split at hs; (cases hs; exact cmG_later hx hl); cases hs)) 6 _ _ (byDst_looks _ _) (by kernel_rfl) (by kernel_rfl) (by kernel_rfl) (by kernel_rfl) (by simp) (by simp) rfl rfl rfl rfl rfl rfl (fun _ => rfl) (fun a v => execOp_put (ops := #[]) _ (by intro cs b h; cases h) a _ v (by intro d hd; cases hd; decide)) H0.out ?_
          refine gs_loadS Tryz.isNd rfl (by first | rfl | kernel_rfl) _ rfl w.heap.size rfl (ndA (.slice ao n.xs.length ac) (.slice bo n.ys.length bc) (.slice ko n.h.ks.length kc) (.slice qo n.c.ts.length qc) (.slice zo n.s.ts.length zc) n) rfl (fun y => HF.out.p.below (HQ.out _ y.h)) ?_
          refine gs_call (mnG w4.heap.size n) rfl (by first | rfl | kernel_rfl) (fun wq hB => ?_) (fun uq hu => ?_)
          · go_simp
            refine ⟨rfl, ?_⟩
            exact mnG_of (HQ.out _ hB.1).size (CF.out HK.out _ (HF.out.b.trans ((HQ.out _ hB.1).mono HF.out.b.size)))
          obtain ⟨a1, a2, b1, b2, k1, k2, q1, q2, z1, z2, rfl⟩ := hu
          iterate 1 (refine gs_plain rfl (fun K hK => ?_); go_simp; refine hK _ ?_; clear hK K)
          refine gs_loadS isCm5 rfl (by first | rfl | kernel_rfl) _ rfl g8 rfl (cmA c) rfl (fun y => V.out.below (HQ.out _ y.h)) ?_
          refine gs_call (cmG w4.heap.size y) rfl (by first | rfl | kernel_rfl) (fun wq hB => ?_) (fun uq hu => ?_)
          · have f58 := mnG_at (hB.at0 (by first | rfl | kernel_rfl))
            have hq1 := (HQ.out _ hB.1).size
            have hq2 := HF.out.b.trans ((HQ.out _ hB.1).mono HF.out.b.size)
            clear hB
            go_simp
            refine ⟨rfl, ?_⟩
            exact cmG_of (CC.out _ _ _ _ _ _ hq2 _ hq1 f58)
          obtain ⟨c1, c2, d1, d2, e1, e2, f1, f2, h1, h2, rfl⟩ := hu
          iterate 2 (refine gs_plain rfl (fun K hK => ?_); go_simp; refine hK _ ?_; clear hK K)
          refine gs_end (fun w16 hz => ?_)
          have bz := HQ.out _ hz.1
          have m16 := cmG_at (hz.2 _ (List.mem_cons_self ..))
          have HF16 := HF.out.below bz
          refine sure_put Tryz.isNd _ _ rfl (w.heap.size + 1) (ndA (.slice c1 y.1.xs.length c2) (.slice d1 y.1.ys.length d2) (.slice e1 y.1.h.ks.length e2) (.slice f1 y.1.c.ts.length f2) (.slice h1 y.1.s.ts.length h2) y.1) zeroNd rfl rfl rfl rfl (ndA_one _ rfl rfl rfl rfl rfl) HF16.r ?_
          intro w19 s19 g19
          refine ⟨trivial, ?_⟩
          refine last_putL Tryz.isA rfl rfl _ _ rfl (w.heap.size + 1 + 1) (anA y.2) (anA ⟨0, []⟩) rfl rfl rfl rfl (anA_one _) (HF16.ra.kept g19 (by simp)) ?_
          intro w20 s20 g20
          go_wp2_with fail
          refine bodyPost_ret (results_NA rfl _ _ (w.heap.size + 1) (w.heap.size + 1 + 1) _ _ rfl rfl rfl rfl (s19.kept g20 (by simp)) s20) rfl ?_
          rw [HY.out]
          exact ⟨_, _, _, _, _, rfl, HF16.fin (m16.mono HF.out.lt) g19 g20⟩
        · have HY : Hid (x = (n, ⟨4, tx⟩)) := by rw [Hid, HX.out, if_neg hcd]
          clear HX CC
          go_upto_region 7 with fail
          clear p1 hcd
          go_wp2_with (refine wpList_getS Tryz.isNd rfl _ rfl w.heap.size rfl (ndA (.slice ao n.xs.length ac) (.slice bo n.ys.length bc) (.slice ko n.h.ks.length kc) (.slice qo n.c.ts.length qc) (.slice zo n.s.ts.length zc) n) rfl HF.out.p ?_)
          refine (CF.out HK.out w4 HF.out.b).mono ?_
          rintro e w9 ⟨a', b', k', q', z', rfl, o3, b3⟩
          obtain ⟨a1, a2, rfl⟩ := reads_form o3.reads.ra
          obtain ⟨b1, b2, rfl⟩ := reads_form o3.reads.rb
          obtain ⟨k1, k2, rfl⟩ := reads_form o3.reads.rk
          obtain ⟨q1, q2, rfl⟩ := reads_form o3.reads.rq
          obtain ⟨z1, z2, rfl⟩ := reads_form o3.reads.rz
          have O : Hid (MineN w9 (w.heap.size + 3) (.slice a1 n.xs.length a2) (.slice b1 n.ys.length b2) (.slice k1 n.h.ks.length k2) (.slice q1 n.c.ts.length q2) (.slice z1 n.s.ts.length z2) n) := o3.mono HF.out.lt
          replace HF : Hid (AnS w w9 (ndA (.slice ao n.xs.length ac) (.slice bo n.ys.length bc) (.slice ko n.h.ks.length kc) (.slice qo n.c.ts.length qc) (.slice zo n.s.ts.length zc) n)) := HF.out.below b3
          clear o3 b3 CF
          go_wp2_with fail
          have b9 : Below w9.heap.size w9 (w9.alloc (.cells #[.int .i64 cd] 2)) := (Below.refl _ _).alloc (Nat.le_refl _) _
          refine (CH.out _ _ (own_one w9 cd).reads (HF.out.b.trans (b9.mono HF.out.b.size))).mono ?_
          rintro e w10 ⟨rfl, b10⟩
          replace HF : Hid (AnS w w10 (ndA (.slice ao n.xs.length ac) (.slice bo n.ys.length bc) (.slice ko n.h.ks.length kc) (.slice qo n.c.ts.length qc) (.slice zo n.s.ts.length zc) n)) := (HF.out.below b9).below b10
          replace O : Hid (MineN w10 (w.heap.size + 3) (.slice a1 n.xs.length a2) (.slice b1 n.ys.length b2) (.slice k1 n.h.ks.length k2) (.slice q1 n.c.ts.length q2) (.slice z1 n.s.ts.length z2) n) := (O.out.below b9).below b10
          clear b9 b10 CH
          go_wp2_with (first | (refine wpList_putS Tryz.isNd rfl _ _ rfl (w.heap.size + 1) (ndA (.slice a1 n.xs.length a2) (.slice b1 n.ys.length b2) (.slice k1 n.h.ks.length k2) (.slice q1 n.c.ts.length q2) (.slice z1 n.s.ts.length z2) n) zeroNd rfl rfl rfl rfl (ndA_one _ rfl rfl rfl rfl rfl) HF.out.r ?_; intro w19 s19 g19) | (refine wpList_putS Tryz.isA rfl _ _ rfl (w.heap.size + 1 + 1) (anA ⟨4, tx⟩) (anA ⟨0, []⟩) rfl rfl rfl rfl (anA_one _) (HF.out.ra.kept g19 (by simp)) ?_; intro w20 s20 g20))
          refine bodyPost_ret (results_NA rfl _ _ (w.heap.size + 1) (w.heap.size + 1 + 1) _ _ rfl rfl rfl rfl (s19.kept g20 (by simp)) s20) rfl ?_
          rw [HY.out]
          exact ⟨_, _, _, _, _, rfl, HF.out.fin O.out g19 g20⟩
end Go.Proofs.YtlkkpolnllbljaaGreatDoor
/- A house that is asked, by the program: as the plain side has it. -/
namespace Go.Proofs.YtlkkpolnllbljaaGreatDoor
open Go.ChangeShapes Go.WideShapes Go.ChangeAt Go.RowKit

theorem Nd.askP_is (n : Nd) (i : Int) (b : Bs) : n.askP i b = n.Ask i b := by
  unfold Nd.askP Nd.Ask
  cases hk : n.ok with
  | false => rfl
  | true =>
    have R := (Nd.ok_iff n).1 hk
    simp only [if_true]
    unfold Nd.ask
    cases hu : n.up <;> cases hi : inI i 0 3 <;> simp
    by_cases hc : codeC b = 0
    · simp only [hc, if_true]
      have hco : (readC b).ok = true := by
        unfold readC
        rw [if_pos hc]
        exact (codeC_zero hc).2.2
      have hd : Sr.did ⟨n.xs, n.ys, n.h⟩ i (readC b) = (Sr.mk n.xs n.ys n.h).doing i (readC b) := by
        unfold Sr.did Sr.ok
        rw [R.dk, R.h, hi, hco]
        rfl
      unfold Nd.cmd
      rw [hd]
      have hm : n.c.Mark (readC b).p = n.c.mark (readC b).p := by
        unfold Cp.Mark
        rw [if_pos R.c]
      rw [hm]
      simp [hu]
    · simp [hc]
theorem iAsk_any (a b k q z : Value) (n : Nd) (i : Int) (bs : Bs) (w : World) (hr : RdN w a b k q z n) (hl : SmN n) (hb : bs.length ≤ 1048576) (ht : TabS w) :
    Calls Tryz.prog 7 #[NdV a b k q z n, .int .i64 i, S bs] w fun e w' => ∃ a' b' k' q' z', e = .returned (.tuple #[NdV a' b' k' q' z' (n.Ask i bs).1, AV (n.Ask i bs).2]) ∧ MineN w' w.heap.size a' b' k' q' z' (n.Ask i bs).1 ∧ Below w.heap.size w w' := by
  have h := iAsked_any a b k q z n i bs w hr hl hb ht
  rwa [Nd.askP_is] at h
end Go.Proofs.YtlkkpolnllbljaaGreatDoor
/- The table of powers of ten of Go's library, out of what a statement lists. -/
namespace Go.Proofs.YtlkkpolnllbljaaGreatDoor
open Go.ChangeShapes Go.WideShapes Go.ChangeAt Go.RowKit

theorem pow_is : (Rows.laid_internal_strconv_uint64pow10 : DataW Unit) = Lib.tabData .u64 Lib.pow10Tab := by kernel_rfl
theorem tab_third {W : World} {a b : String × DataW Unit} {rest : List (String × DataW Unit)} (h : laidMet Tryz.prog (a :: b :: ("internal/strconv.uint64pow10", Rows.laid_internal_strconv_uint64pow10) :: rest) W) : Tab W := by
  have h3 : laidMet Tryz.prog (("internal/strconv.uint64pow10", Lib.tabData .u64 Lib.pow10Tab) :: rest) W := by
    have := h.tail.tail
    rw [pow_is] at this
    exact this
  exact Lib.tabIs_of_head (show Tryz.prog.globalNamed "internal/strconv.uint64pow10" = some 4 by kernel_rfl) (show (Tryz.prog.globals[4]?).map (·.type) = some 217 by kernel_rfl) Tryz.underlying217 Tryz.underlying181 (by kernel_rfl) (by kernel_rfl) h3

end Go.Proofs.YtlkkpolnllbljaaGreatDoor
/- The program's four reasons, the type of errors and the library's table, out of what a statement lists. -/
namespace Go.Proofs.YtlkkpolnllbljaaGreatDoor
open Go.ChangeShapes Go.WideShapes Go.ChangeAt Go.RowKit

theorem Tryz.cellsES : Tryz.prog.cellsOf 346 = 1 := by kernel_rfl
theorem Tryz.cellsSt : Tryz.prog.cellsOf 9 = 1 := by kernel_rfl
theorem Tryz.starES : "*" ++ "errors.errorString" = "*errors.errorString" := by decide
theorem Tryz.rowES (u : TypeId) (h : Tryz.prog.typeName? 3 u = some "*errors.errorString") : u = 327 :=
  typeName_ptr_named (nm := "errors.errorString") (by rw [Tryz.starES]; kernel_rfl) (by kernel_rfl) (by decide) u (by rw [Tryz.starES]; exact h)

/- Four errors of one make, one behind the other on the list: they lie apart, in rows that nothing is frozen of. -/
theorem laid_four {P : Program} {n0 n1 n2 n3 nm : String} {x0 x1 x2 x3 : List UInt8} {r : List (String × DataW Unit)} {W : World} {g0 g1 g2 g3 : Nat} {ti tp te ts : TypeId} {ms : Array (String × TypeId)} {f : Field}
    (h : laidMet P ((n0, .iface nm (.ptr (.agg [.lit (.string x0)]))) :: (n1, .iface nm (.ptr (.agg [.lit (.string x1)]))) :: (n2, .iface nm (.ptr (.agg [.lit (.string x2)]))) :: (n3, .iface nm (.ptr (.agg [.lit (.string x3)]))) :: r) W)
    (hg0 : P.globalNamed n0 = some g0) (ht0 : (P.globals[g0]?).map (·.type) = some ti) (hg1 : P.globalNamed n1 = some g1) (ht1 : (P.globals[g1]?).map (·.type) = some ti)
    (hg2 : P.globalNamed n2 = some g2) (ht2 : (P.globals[g2]?).map (·.type) = some ti) (hg3 : P.globalNamed n3 = some g3) (ht3 : (P.globals[g3]?).map (·.type) = some ti)
    (hi : P.underlying ti = some (.interface ms)) (hrow : ∀ u, P.typeName? 3 u = some nm → u = tp)
    (hp : P.underlying tp = some (.pointer te)) (he : P.underlying te = some (.struct #[f])) (hft : f.type = ts) (hfo : f.offset = 0) (hs : P.underlying ts = some .string) (hc : P.cellsOf te = 1) (hcs : P.cellsOf ts = 1) :
    ∃ a0 a1 a2 a3 : Addr, W.cell? ⟨g0, 0, none⟩ = some (.iface tp (.pointer (some a0))) ∧ W.cell? ⟨g1, 0, none⟩ = some (.iface tp (.pointer (some a1))) ∧ W.cell? ⟨g2, 0, none⟩ = some (.iface tp (.pointer (some a2))) ∧ W.cell? ⟨g3, 0, none⟩ = some (.iface tp (.pointer (some a3))) ∧
      Held W a0 ∧ Held W a1 ∧ Held W a2 ∧ Held W a3 ∧ a0 ≠ a1 ∧ a0 ≠ a2 ∧ a0 ≠ a3 ∧ a1 ≠ a2 ∧ a1 ≠ a3 ∧ a2 ≠ a3 := by
  obtain ⟨ps, ⟨g0', t0', cs0, f0, p0, q0, hg0', ht0', hv0, hd0, ⟨g1', t1', cs1, f1, p1, q1, hg1', ht1', hv1, hd1, ⟨g2', t2', cs2, f2, p2, q2, hg2', ht2', hv2, hd2, ⟨g3', t3', cs3, f3, p3, q3, hg3', ht3', hv3, hd3, _, e3⟩, e2⟩, e1⟩, e0⟩, hnd, hrows⟩ := h
  obtain rfl := Option.some.inj (hg0.symm.trans hg0')
  obtain rfl := Option.some.inj (hg1.symm.trans hg1')
  obtain rfl := Option.some.inj (hg2.symm.trans hg2')
  obtain rfl := Option.some.inj (hg3.symm.trans hg3')
  obtain rfl := Option.some.inj (ht0.symm.trans ht0')
  obtain rfl := Option.some.inj (ht1.symm.trans ht1')
  obtain rfl := Option.some.inj (ht2.symm.trans ht2')
  obtain rfl := Option.some.inj (ht3.symm.trans ht3')
  subst e3
  subst e2
  subst e1
  subst e0
  obtain ⟨l0⟩ := cs0
  obtain ⟨l1⟩ := cs1
  obtain ⟨l2⟩ := cs2
  obtain ⟨l3⟩ := cs3
  have ok0 : ∀ u v, l0 = [.iface u v] → Value.okWide P W .any 0 u v := fun u v e => by
    subst e
    exact (hrows g0 0 (by simp [MemPlace.row])).2 u v (by simpa using World.var?_cell hg0' hv0 0)
  have ok1 : ∀ u v, l1 = [.iface u v] → Value.okWide P W .any 0 u v := fun u v e => by
    subst e
    exact (hrows g1 0 (by simp [MemPlace.row])).2 u v (by simpa using World.var?_cell hg1' hv1 0)
  have ok2 : ∀ u v, l2 = [.iface u v] → Value.okWide P W .any 0 u v := fun u v e => by
    subst e
    exact (hrows g2 0 (by simp [MemPlace.row])).2 u v (by simpa using World.var?_cell hg2' hv2 0)
  have ok3 : ∀ u v, l3 = [.iface u v] → Value.okWide P W .any 0 u v := fun u v e => by
    subst e
    exact (hrows g3 0 (by simp [MemPlace.row])).2 u v (by simpa using World.var?_cell hg3' hv3 0)
  obtain ⟨a0, s0, rfl, -, -, -, rfl⟩ := errorString_of_trod hi hrow hp he hft hfo hs hc hcs hd0 ok0
  obtain ⟨a1, s1, rfl, -, -, -, rfl⟩ := errorString_of_trod hi hrow hp he hft hfo hs hc hcs hd1 ok1
  obtain ⟨a2, s2, rfl, -, -, -, rfl⟩ := errorString_of_trod hi hrow hp he hft hfo hs hc hcs hd2 ok2
  obtain ⟨a3, s3, rfl, -, -, -, rfl⟩ := errorString_of_trod hi hrow hp he hft hfo hs hc hcs hd3 ok3
  refine ⟨a0, a1, a2, a3, by simpa using World.var?_cell hg0' hv0 0, by simpa using World.var?_cell hg1' hv1 0, by simpa using World.var?_cell hg2' hv2 0, by simpa using World.var?_cell hg3' hv3 0, (hrows a0.block a0.off (by simp [MemPlace.row])).1, (hrows a1.block a1.off (by simp [MemPlace.row])).1, (hrows a2.block a2.off (by simp [MemPlace.row])).1, (hrows a3.block a3.off (by simp [MemPlace.row])).1, ?_, ?_, ?_, ?_, ?_, ?_⟩ <;> (rintro rfl; simp [MemPlace.row] at hnd)

/- Four variables are read as four data. -/
theorem vars4 {H : Type} {enc : TypeId × Value → H} {P : Program} {w : World} {sp : Nat → Bool} {n1 n2 n3 n4 : String} {gs : List (DataW H)} {ps : List MemPlace} (h : DataW.TrodVars enc P w sp [n1, n2, n3, n4] gs ps) : ∃ a b c d, gs = [a, b, c, d] := by
  rcases gs with _ | ⟨a, _ | ⟨b, _ | ⟨c, _ | ⟨d, _ | ⟨e, r⟩⟩⟩⟩⟩ <;> simp_all [DataW.TrodVars]

theorem Tryz.etG : Tryz.prog.globalNamed "errors.errorType" = some 5 := by kernel_rfl
theorem Tryz.rtG : (Tryz.prog.cutTypes.find? (·.1 == "internal/reflectlite.rtype")).map (·.2) = some 256 := by kernel_rfl
theorem Tryz.sizeT : Tryz.prog.types.size = 358 := by kernel_rfl
theorem Tryz.oneRow : ((List.range 358).filter fun t => Tryz.prog.rowNamed t [101, 114, 114, 111, 114]) = [138] := by kernel_rfl
theorem handle_of {W : World} (h : handlesMet Tryz.prog [("errors.errorType", Rows.laid_errors_errorType)] W) : W.cell? ⟨5, 0, none⟩ = some (.iface 256 (.agg #[.pointer (some ⟨11, 138, none⟩)])) := by
  obtain ⟨name, u, ty, e1, e2, e3, e4, e5⟩ := h _ (List.mem_singleton.2 rfl)
  have en : name = [101, 114, 114, 111, 114] := (Option.some.inj e1).symm
  subst en
  obtain rfl := Option.some.inj (Tryz.rtG.symm.trans e2)
  have hm : ty ∈ (List.range 358).filter fun t => Tryz.prog.rowNamed t [101, 114, 114, 111, 114] := List.mem_filter.2 ⟨List.mem_range.2 (by rw [← Tryz.sizeT]; exact e3), e4⟩
  rw [Tryz.oneRow] at hm
  obtain rfl := List.mem_singleton.1 hm
  have hh : typeHandle Tryz.prog 138 = .pointer (some ⟨11, 138, none⟩) := by kernel_rfl
  rw [hh] at e5
  simpa using World.var?_cell Tryz.etG e5 0

theorem tabS_of {W : World} {a b : String × DataW Unit} (h : laidMet Tryz.prog (a :: b :: ("internal/strconv.uint64pow10", Rows.laid_internal_strconv_uint64pow10) :: ("loop.example/g00354/impl.errRange", Rows.laid_loop_example_g00354_impl_errRange) :: ("loop.example/g00354/impl.errUnlike", Rows.laid_loop_example_g00354_impl_errUnlike) :: ("loop.example/g00354/impl.errConflict", Rows.laid_loop_example_g00354_impl_errConflict) :: ("loop.example/g00354/impl.errNone", Rows.laid_loop_example_g00354_impl_errNone) :: []) W)
    (h' : handlesMet Tryz.prog [("errors.errorType", Rows.laid_errors_errorType)] W) : TabS W := by
  obtain ⟨a0, a1, a2, a3, c0, c1, c2, c3, h0, h1, h2, h3, n01, n02, n03, n12, n13, n23⟩ := laid_four h.tail.tail.tail (show Tryz.prog.globalNamed "loop.example/g00354/impl.errRange" = some 1 by kernel_rfl) (by kernel_rfl) (show Tryz.prog.globalNamed "loop.example/g00354/impl.errUnlike" = some 2 by kernel_rfl) (by kernel_rfl) (show Tryz.prog.globalNamed "loop.example/g00354/impl.errConflict" = some 3 by kernel_rfl) (by kernel_rfl) (show Tryz.prog.globalNamed "loop.example/g00354/impl.errNone" = some 0 by kernel_rfl) (by kernel_rfl) Tryz.underlying138 Tryz.rowES Tryz.underlying327 Tryz.underlying346 rfl rfl Tryz.underlying9 Tryz.cellsES Tryz.cellsSt
  exact ⟨tab_third h, ⟨a3, a0, a1, a2⟩, ⟨c3, c0, c1, c2, handle_of h', h3, h0, h1, h2, Ne.symm n03, Ne.symm n13, Ne.symm n23, Ne.symm n01, Ne.symm n02, Ne.symm n12⟩⟩

end Go.Proofs.YtlkkpolnllbljaaGreatDoor
/- FnExactAsked: what its statement lists, out of the world and into a world that meets it (a pinned table beside a type's handle). -/
namespace Go.Proofs.YtlkkpolnllbljaaGreatDoor
open Go.ChangeShapes Go.WideShapes Go.ChangeAt Go.RowKit

theorem tabS_of2 {W : World} {a b c : String × DataW Unit} {r : List (String × DataW Unit)} (h : laidMet Tryz.prog (a :: b :: ("internal/strconv.uint64pow10", Rows.laid_internal_strconv_uint64pow10) :: c :: ("loop.example/g00354/impl.errRange", Rows.laid_loop_example_g00354_impl_errRange) :: ("loop.example/g00354/impl.errUnlike", Rows.laid_loop_example_g00354_impl_errUnlike) :: ("loop.example/g00354/impl.errConflict", Rows.laid_loop_example_g00354_impl_errConflict) :: ("loop.example/g00354/impl.errNone", Rows.laid_loop_example_g00354_impl_errNone) :: r) W)
    (h' : handlesMet Tryz.prog [("errors.errorType", Rows.laid_errors_errorType)] W) : TabS W := by
  obtain ⟨a0, a1, a2, a3, c0, c1, c2, c3, h0, h1, h2, h3, n01, n02, n03, n12, n13, n23⟩ := laid_four h.tail.tail.tail.tail (show Tryz.prog.globalNamed "loop.example/g00354/impl.errRange" = some 1 by kernel_rfl) (by kernel_rfl) (show Tryz.prog.globalNamed "loop.example/g00354/impl.errUnlike" = some 2 by kernel_rfl) (by kernel_rfl) (show Tryz.prog.globalNamed "loop.example/g00354/impl.errConflict" = some 3 by kernel_rfl) (by kernel_rfl) (show Tryz.prog.globalNamed "loop.example/g00354/impl.errNone" = some 0 by kernel_rfl) (by kernel_rfl) Tryz.underlying138 Tryz.rowES Tryz.underlying327 Tryz.underlying346 rfl rfl Tryz.underlying9 Tryz.cellsES Tryz.cellsSt
  exact ⟨tab_third h, ⟨a3, a0, a1, a2⟩, ⟨c3, c0, c1, c2, handle_of h', h3, h0, h1, h2, Ne.symm n03, Ne.symm n13, Ne.symm n23, Ne.symm n01, Ne.symm n02, Ne.symm n12⟩⟩

/- 3 -/
def restA : List (String × DataW Unit) := [("math/bits.deBruijn32tab", Rows.laid_math_bits_deBruijn32tab), ("math/bits.deBruijn64tab", Rows.laid_math_bits_deBruijn64tab), ("internal/strconv.uint64pow10", Rows.laid_internal_strconv_uint64pow10), ("unicode/utf8.acceptRanges", Rows.laid_unicode_utf8_acceptRanges), ("loop.example/g00354/impl.errRange", Rows.laid_loop_example_g00354_impl_errRange), ("loop.example/g00354/impl.errUnlike", Rows.laid_loop_example_g00354_impl_errUnlike), ("loop.example/g00354/impl.errConflict", Rows.laid_loop_example_g00354_impl_errConflict), ("loop.example/g00354/impl.errNone", Rows.laid_loop_example_g00354_impl_errNone)]
def pinA : List (String × DataW Unit) := [("unicode/utf8.first", Rows.laid_unicode_utf8_first)]
theorem tab_fnExactAsked {W : World} (h : laidMetH Tryz.prog Rows.fnExactAskedRow.laid W) : TabS W := by
  have h' : laidMet Tryz.prog (restA ++ pinA) W ∧ handlesMet Tryz.prog [("errors.errorType", Rows.laid_errors_errorType)] W := h
  exact tabS_of2 h'.1 h'.2
noncomputable def worldA (os : Os) : World := (World.doorLaid Tryz.prog 1000 os).layVars Tryz.prog pinA
noncomputable def blocksA (os : Os) : List Nat := ((DataW.laidRun Tryz.prog (worldA os) 8 (restA.map (·.1))).map (fun x => x.2.map (·.block))).getD []
theorem laidA (os : Os) : laidMet Tryz.prog (restA ++ pinA) (worldA os) := by
  have e1 : ((restA ++ pinA).filter fun x => ["unicode/utf8.first"].contains x.1) = pinA := by kernel_rfl
  have e2 : ((restA ++ pinA).filter fun x => !["unicode/utf8.first"].contains x.1) = restA := by kernel_rfl
  refine laidMet_layVars (w0 := World.doorLaid Tryz.prog 1000 os) (w' := worldA os) ["unicode/utf8.first"] (blocksA os) (by rw [e1]; rfl) (by rw [e1]; kernel_rfl) (by rw [e1]; kernel_rfl) ?_
  rw [e2]
  exact LaidIn.of_run (blocksA os) 8 (by kernel_rfl) (by kernel_rfl) (by kernel_rfl) (by kernel_rfl)
theorem met_fnExactAsked (os : Os) (args : Array Value) : laidMetH Tryz.prog Rows.fnExactAskedRow.laid ((worldA os).forCall (fun _ _ => 0) ⟨#[], args, []⟩).memory :=
  laidMetH_of_parts3 (fuel := 8) ((laidA os).of_heap (by simp [World.memory, World.forCall, Input.heap])) (by kernel_rfl) (by kernel_rfl)
end Go.Proofs.YtlkkpolnllbljaaGreatDoor
