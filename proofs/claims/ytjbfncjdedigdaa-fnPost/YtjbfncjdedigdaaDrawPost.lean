/- What the laws draw of posts: l16Draw, DrawPosted, DrawTaken, DrawTwice. -/
import Derived.Test.YtjbfncjdedigdaaDrawMsg2
import Derived.Test.YtjbfncjdedigdaaSPost
import Derived.Test.YtjbfncjdedigdaaCpB
namespace Go.Proofs.Ytjbfncjdedigdaa
open Go.ChangeShapes Go.WideShapes Go.ChangeAt Go.RowKit

theorem OwnP.kept {w w' : World} {base c : Nat} {v : Value} {ps : List (Value × Mg)} (h : OwnP w base v ps) (g : w.grownBy w' (some c)) (hc : c < base) : OwnP w' base v ps :=
  h.frame (fun x hx => g.block x (h.lt x hx).2 (fun e => by have := (h.lt x hx).1; have := Option.some.inj e; omega))
/- A message more, whose keys are new since an earlier world. -/
theorem OwnP.pushLt {w1 w2 w4 : World} {base : Nat} {v v' u : Value} {m : Mg} {ps : List (Value × Mg)} {o : Obj} (h : OwnP w1 base v ps) (h2 : OwnP w2 base v ps) (hu : Mine w2 w1.heap.size u m.h.ks) (hb : base ≤ w1.heap.size)
    (hown : w4.ownsRow base 35 11 v' ((msC ps).length + 1) (flatC (msC ps) ++ (mgA u m).toList)) (hg : (w2.alloc o).grownBy w4 v.ownBlock) : OwnP w4 base v' (ps ++ [(u, m)]) := by
  have B3 : Below w2.heap.size w2 (w2.alloc o) := (Below.refl _ _).alloc (Nat.le_refl _) _
  have h3 := h2.below B3
  have u3 := hu.below B3
  have e : flatC (msC (ps ++ [(u, m)])) = flatC (msC ps) ++ (mgA u m).toList := by simp [msC, flatC]
  refine ⟨⟨msC_sz _, ?_⟩, ?_, ?_⟩
  · rw [e, show (msC (ps ++ [(u, m)])).length = (msC ps).length + 1 by simp [msC]]
    exact hown
  · intro p hp
    rcases List.mem_append.1 hp with hp | hp
    · exact (h3.key p hp).keptRow h3.row (by decide) hg
    · have : p = (u, m) := by simpa using hp
      subst this
      exact (u3.keptRow h3.row (by decide) hg).mono hb
  · refine List.pairwise_append.2 ⟨h.ap, by simp, fun p hp q hq x hx hy => ?_⟩
    have : q = (u, m) := by simpa using hq
    subst this
    have h1 := (mineOf_lt (h.key p hp) hx).2
    have h2 := (mineOf_lt hu hy).1
    omega
/- A post that is being drawn: new since w0; the cursor stands; nothing else has turned; the house lies at block h. -/
structure DrP (w0 w : World) (B c h : Nat) (nd : Array Value) (v : Value) (ps : List (Value × Mg)) : Prop where
  own : OwnP w w0.heap.size v ps
  cur : Cur w B c
  gr : w0.grownBy w (some c)
  lt : c < w0.heap.size
  hb : w0.heap.size ≤ h
  nb : StB w h 82 nd
theorem DrP.draw {w0 w w' : World} {B c h : Nat} {nd : Array Value} {v : Value} {ps : List (Value × Mg)} (d : DrP w0 w B c h nd v ps) (C : Cur w' B c) (G : w.grownBy w' (some c)) : DrP w0 w' B c h nd v ps :=
  ⟨d.own.kept G d.lt, C, d.gr.trans G, d.lt, d.hb, d.nb.kept G (fun e => by have := Option.some.inj e; have := d.lt; have := d.hb; omega)⟩
theorem DrP.below {w0 w w' : World} {B c h : Nat} {nd : Array Value} {v : Value} {ps : List (Value × Mg)} (d : DrP w0 w B c h nd v ps) (b : Below w.heap.size w w') : DrP w0 w' B c h nd v ps :=
  ⟨d.own.below b, d.cur.below b, d.gr.trans ⟨b.os, b.tape, b.output, b.size, fun x hx _ => b.block x hx⟩, d.lt, d.hb, d.nb.below b⟩
/- Few messages, with few keys each. -/
def FewP (ps : List (Value × Mg)) (n : Nat) : Prop := ps.length ≤ n ∧ ∀ p ∈ ps, p.2.h.ks.length ≤ 4
theorem FewP.push {ps : List (Value × Mg)} {n : Nat} {u : Value} {m : Mg} (h : FewP ps n) (hm : m.h.ks.length ≤ 4) : FewP (ps ++ [(u, m)]) (n + 1) :=
  ⟨by have := h.1; simp; omega, fun p hp => by
    rcases List.mem_append.1 hp with hp | hp
    · exact h.2 p hp
    · have : p = (u, m) := by simpa using hp
      subst this; exact hm⟩
theorem FewP.mono {ps : List (Value × Mg)} {n k : Nat} (h : FewP ps n) (hk : n ≤ k) : FewP ps k := ⟨Nat.le_trans h.1 hk, h.2⟩
def NdOf (x : Int) (r : Rc) : Nd := { Nd.zero with id := x, r := r }
theorem built_node0 (x r0 r1 r2 r3 : Int) : Try.prog.built 82 [(0, .int .i64 x), (5, .agg #[.int .i64 r0, .int .i64 r1, .int .i64 r2, .int .i64 r3])] = some (ndA (.slice none 0 0) (.slice none 0 0) (.slice none 0 0) (.slice none 0 0) (.slice none 0 0) (NdOf x ⟨r0, r1, r2, r3⟩)) := by kernel_rfl
theorem wpList_build {ops : Array Oper} {rest : List Oper} {o : Oper} {a : Act} {w : World} {Q : Exit → Act → World → Prop} (hgd : o.guard = none) (t : TypeId) (fs : Array (Nat × Operand)) (ho : o.op = .build t fs) (cells : Array Value)
    (hc : Try.prog.built t (fs.map fun (i, x) => (i, a.eval x)).toList = some cells) (h : wpList Try.prog ops Q rest (a.put o.dst (.agg cells)) w) : wpList Try.prog ops Q (o :: rest) a w := by
  refine wpList_plain hgd fun K hK => ?_
  unfold Oper.wp execOp
  simp only [ho, Sem.run_bind, run_build w t _ cells hc, Result.andThen_ok]
  exact hK _ _ h
def lenV : Value → Nat
  | .slice _ n _ => n
  | _ => 0

set_option maxRecDepth 20000 in
set_option maxHeartbeats 8000000 in
theorem l16draw_any (B c : Nat) (w : World) (hcur : Cur w B c) :
    Calls Try.prog 31 #[.pointer (some ⟨c, 0, none⟩)] w fun e w' => ∃ v ps, e = .returned v ∧ FewP ps 42 ∧ OwnP w' w.heap.size v ps ∧ Cur w' B c ∧ w.grownBy w' (some c) := by
  obtain ⟨i0, hi, hz0, hz1, hz2⟩ := info_parts Try.infoM
  have hlt := hcur.lt
  have HC : Hid (Cur (w.alloc (.cells #[] 35)) B c) := hcur.below ((Below.refl _ _).alloc (Nat.le_refl _) _)
  clear hcur
  go_enter Try.func31, Try.ntmps31
  go_wp2_with fail
  refine (below_any B c 2 _ HC.out (by omega)).mono ?_
  rintro e w1 ⟨x1, rfl, l1, u1, -, C, G⟩
  have v1 := u1 (by omega)
  have H1 : Hid (Cur w1 B c ∧ (w.alloc (.cells #[] 35)).grownBy w1 (some c)) := ⟨C, G⟩
  clear u1 C G HC
  go_wp2_with fail
  refine (l5drawF_any B c _ H1.out.1).mono ?_
  rintro e w2 ⟨r, rfl, hf, C, G⟩
  have H2 : Hid (Cur w2 B c ∧ (w.alloc (.cells #[] 35)).grownBy w2 (some c)) := ⟨C, H1.out.2.trans G⟩
  clear C G H1
  have hb := built_node0 x1 r.e r.s r.t r.n
  unfold RV recA
  obtain ⟨nd, hnd⟩ : ∃ nd, nd = NdOf x1 r := ⟨_, rfl⟩
  rw [show NdOf x1 ⟨r.e, r.s, r.t, r.n⟩ = nd from hnd.symm] at hb
  have hnr : nd.r.Few := by rw [hnd]; exact hf
  clear hnd
  have hs2 : w.heap.size + 1 ≤ w2.heap.size := by have := H2.out.2.size; simp at this; omega
  have p2 : StB (w2.alloc (.cells zeroNd 82)) w2.heap.size 82 zeroNd := StB.new _ _ _
  go_wp2_with (first | (refine wpList_build rfl 82 #[(0, .tmp 9), (5, .tmp 11)] rfl _ (by simp [Act.eval, Act.put]; exact hb) ?_) | (refine wpList_putB rfl 82 _ _ rfl w2.heap.size (ndA (.slice none 0 0) (.slice none 0 0) (.slice none 0 0) (.slice none 0 0) (.slice none 0 0) nd) zeroNd rfl rfl (ndA_one _ rfl rfl rfl rfl rfl) p2 Try.isNd.2 rfl ?_; intro w3 q3 g3))
  have B23 : Below w2.heap.size w2 w3 := ((Below.refl _ _).alloc (Nat.le_refl _) _).trans (g3.belowAt (fun b hb => by simp at hb; omega) (by simp))
  obtain ⟨h, hh⟩ : ∃ h, h = w2.heap.size := ⟨_, rfl⟩
  have H3 : Hid (DrP w w3 B c h (ndA (.slice none 0 0) (.slice none 0 0) (.slice none 0 0) (.slice none 0 0) (.slice none 0 0) nd) (.slice (some ⟨w.heap.size, 0, none⟩) 0 0) []) := by
    refine ⟨((OwnP.lit w _ (Nat.le_refl _)).kept H2.out.2 hlt.2).below B23, H2.out.1.below B23, ?_, hlt.2, by omega, by rw [hh]; exact q3⟩
    exact ((World.grownBy_alloc w _ _).trans H2.out.2).trans ⟨B23.os, B23.tape, B23.output, B23.size, fun x hx _ => B23.block x hx⟩
  rw [← hh]
  clear p2 q3 g3 B23 hh H2 hb hs2
  refine (below_any B c 6 _ H3.out.cur (by omega)).mono ?_
  rintro e w4 ⟨x4, rfl, l4, u4, -, C, G⟩
  have v4 := u4 (by omega)
  have H4 : Hid (DrP w w4 B c h (ndA (.slice none 0 0) (.slice none 0 0) (.slice none 0 0) (.slice none 0 0) (.slice none 0 0) nd) (.slice (some ⟨w.heap.size, 0, none⟩) 0 0) []) := H3.out.draw C G
  clear u4 C G H3
  go_wp2
  go_loopw [3, 5] (fun out kk wr => ∃ (k : Int) (n : Nat) (ps : List (Value × Mg)), kk = .int .i64 k ∧ k ≤ 5 ∧ ((0 < k → (n : Int) + k ≤ 5) ∧ n ≤ 5) ∧ Hid (FewP ps n) ∧ Hid (DrP w wr B c h (ndA (.slice none 0 0) (.slice none 0 0) (.slice none 0 0) (.slice none 0 0) (.slice none 0 0) nd) out ps)) (fun _ kk _ => (intOf kk).toNat)
  case atStart => exact ⟨x4, 0, [], rfl, by omega, by omega, ⟨Nat.le_refl _, by simp⟩, H4⟩
  case round =>
    obtain ⟨k, n, ps, rfl, hk, hn, HF, HD⟩ := hrel
    clear H4
    by_cases hk0 : 0 < k
    · have ns := HD.out.nb
      have hbb := HD.out.hb
      go_wp2_with (first | (refine wpList_getS Try.isNd rfl _ rfl h rfl (ndA (.slice none 0 0) (.slice none 0 0) (.slice none 0 0) (.slice none 0 0) (.slice none 0 0) nd) rfl ns ?_))
      refine (l15drawMsg_any B c _ _ _ _ _ nd _ HD.out.cur hnr).mono ?_
      rintro e w5 ⟨u, m, rfl, hm, mk, C, G⟩
      have HD5 : Hid (DrP w w5 B c h (ndA (.slice none 0 0) (.slice none 0 0) (.slice none 0 0) (.slice none 0 0) (.slice none 0 0) nd) _ ps ∧ Mine w5 wr.heap.size u m.h.ks ∧ OwnP wr w.heap.size _ ps ∧ w.heap.size ≤ wr.heap.size) := ⟨HD.out.draw C G, mk, HD.out.own, HD.out.gr.size⟩
      clear C G mk HD ns
      have hu : u.oneCell' = true := reads_one HD5.out.2.1.reads
      have p5 : StB (w5.alloc (.cells zeroMg 35)) w5.heap.size 35 zeroMg := StB.new _ _ _
      unfold MgV
      go_upto_region 7 with (first | (refine wpList_putB rfl 35 _ _ rfl w5.heap.size (mgA u m) zeroMg rfl rfl (mgA_one m hu) p5 Try.isMg.2 rfl ?_; intro w6 q6 g6))
      (try simp only [Act.put])
      have q6' : StB w6 w5.heap.size 35 (mgA u m) := q6
      have B56 : Below w5.heap.size w5 w6 := ((Below.refl _ _).alloc (Nat.le_refl _) _).trans (g6.belowAt (fun b hb => by simp at hb; omega) (by simp))
      obtain ⟨d, hd⟩ : ∃ d, d = w5.heap.size := ⟨_, rfl⟩
      rw [← hd] at q6' ⊢
      have HD6 : Hid (DrP w w6 B c h (ndA (.slice none 0 0) (.slice none 0 0) (.slice none 0 0) (.slice none 0 0) (.slice none 0 0) nd) u3 ps ∧ Mine w6 wr.heap.size u m.h.ks ∧ OwnP wr w.heap.size u3 ps ∧ w.heap.size ≤ wr.heap.size ∧ StB w6 d 35 (mgA u m) ∧ w.heap.size ≤ d) := ⟨HD5.out.1.below B56, HD5.out.2.1.below B56, HD5.out.2.2.1, HD5.out.2.2.2, q6', by rw [hd]; exact HD5.out.1.gr.size⟩
      clear p5 q6 g6 B56 hd HD5 q6'
      go_cut [27] (fun t wx => ∃ bb, t = .bool bb ∧ Hid (DrP w wx B c h (ndA (.slice none 0 0) (.slice none 0 0) (.slice none 0 0) (.slice none 0 0) (.slice none 0 0) nd) u3 ps ∧ Mine wx wr.heap.size u m.h.ks ∧ OwnP wr w.heap.size u3 ps ∧ w.heap.size ≤ wr.heap.size ∧ StB wx d 35 (mgA u m) ∧ w.heap.size ≤ d))
      case first =>
        have sm := HD6.out.2.2.2.2.1
        have cm := smsg_any u m w6 HD6.out.2.1.reads (by omega)
        obtain ⟨ok, hok⟩ : ∃ ok, ok = m.ok := ⟨_, rfl⟩
        rw [← hok] at cm
        clear hok
        go_wp2_with (refine wpList_getS Try.isMg rfl _ rfl d rfl (mgA u m) rfl sm ?_)
        refine cm.mono ?_
        rintro e w7 ⟨rfl, b7⟩
        replace HD6 : Hid (DrP w w7 B c h (ndA (.slice none 0 0) (.slice none 0 0) (.slice none 0 0) (.slice none 0 0) (.slice none 0 0) nd) u3 ps ∧ Mine w7 wr.heap.size u m.h.ks ∧ OwnP wr w.heap.size u3 ps ∧ w.heap.size ≤ wr.heap.size ∧ StB w7 d 35 (mgA u m) ∧ w.heap.size ≤ d) := ⟨HD6.out.1.below b7, HD6.out.2.1.below b7, HD6.out.2.2.1, HD6.out.2.2.2.1, HD6.out.2.2.2.2.1.below b7, HD6.out.2.2.2.2.2⟩
        clear b7 sm cm
        cases ok with
        | true =>
          go_wp2
          go_meet
          case rel => exact ⟨_, rfl, HD6⟩
        | false =>
          go_wp2_with fail
          refine (once_any B c 6 _ HD6.out.1.cur (by omega)).mono ?_
          rintro e w8 ⟨bb, rfl, C, G⟩
          have hdc := HD6.out.1.lt
          replace HD6 : Hid (DrP w w8 B c h (ndA (.slice none 0 0) (.slice none 0 0) (.slice none 0 0) (.slice none 0 0) (.slice none 0 0) nd) u3 ps ∧ Mine w8 wr.heap.size u m.h.ks ∧ OwnP wr w.heap.size u3 ps ∧ w.heap.size ≤ wr.heap.size ∧ StB w8 d 35 (mgA u m) ∧ w.heap.size ≤ d) := ⟨HD6.out.1.draw C G, HD6.out.2.1.keptLt G (Nat.lt_of_lt_of_le HD6.out.1.lt HD6.out.2.2.2.1), HD6.out.2.2.1, HD6.out.2.2.2.1, HD6.out.2.2.2.2.1.kept G (fun e => by have := Option.some.inj e; have := HD6.out.2.2.2.2.2; omega), HD6.out.2.2.2.2.2⟩
          clear C G
          go_wp2
          go_meet
          case rel => exact ⟨_, rfl, HD6⟩
      case rest =>
        clear HD6
        obtain ⟨bb, rfl, HD7⟩ := hcut
        obtain ⟨w7, hw7⟩ : ∃ x, x = wc := ⟨_, rfl⟩
        rw [← hw7] at HD7 ⊢
        clear hw7 wc
        cases bb with
        | false =>
          go_wp2
          go_roundw
          case rel => exact ⟨k - 1, n, ps, by go_num, by omega, by omega, HF, HD7.out.1⟩
          case measure => simp [intOf]; omega
        | true =>
          have sm := HD7.out.2.2.2.2.1
          have hu7 : u.oneCell' = true := reads_one HD7.out.2.1.reads
          have hrow : (w7.alloc (.cells (mgA u m) 35)).ownsRow w.heap.size 35 11 u3 (msC ps).length (flatC (msC ps)) := (HD7.out.1.own.row.below ((Below.refl _ _).alloc (Nat.le_refl _) _)).ow
          have hsz : w.heap.size ≤ (w7.alloc (.cells (mgA u m) 35)).heap.size := by rw [World.size_alloc]; exact Nat.le_succ_of_le HD7.out.1.gr.size
          have hlm : (msC ps).length ≤ 5 := by rw [msC_len]; have := HF.out.1; omega
          go_wp2_with (first | (refine wpList_getS Try.isMg rfl _ rfl d rfl (mgA u m) rfl sm ?_) | (at_builtin; refine wpList_append_own _ rfl _ _ 24 rfl w.heap.size 35 i0 (.agg zeroMg) 11 104 Try.underlying24 hi hz0 hz1 hz2 rfl (by decide) _ _ _ rfl hrow ⟨w7.heap.size, 0, none⟩ 1 1 (mgA u m).toList rfl rfl (new_cells w7 _ _) (mgA_each m hu7) (by unfold maxLen; omega) (by omega) hsz ?_) | (refine wpList_litM rfl _ rfl u m rfl ?_))
          intro v' w8 hown' hgrow _
          have HQ : Hid (FewP (ps ++ [(u, m)]) (n + 1) ∧ DrP w w8 B c h (ndA (.slice none 0 0) (.slice none 0 0) (.slice none 0 0) (.slice none 0 0) (.slice none 0 0) nd) v' (ps ++ [(u, m)])) := by
            have hblk : ∀ x, u3.ownBlock = some x → w.heap.size ≤ x := fun x e => (HD7.out.1.own.row.lt x (by simp [e])).1
            have hnc : u3.ownBlock ≠ some c := fun e => by have := hblk _ e; have := HD7.out.1.lt; omega
            have D8 := HD7.out.1.below ((Below.refl w7.heap.size w7).alloc (Nat.le_refl _) (.cells (mgA u m) 35))
            refine ⟨HF.out.push hm, HD7.out.2.2.1.pushLt HD7.out.1.own HD7.out.2.1 HD7.out.2.2.2.1 hown' hgrow, D8.cur.kept hgrow hnc (fun x e => by have := hblk _ e; omega), grown_ownU D8.gr hgrow hblk, D8.lt, D8.hb, ?_⟩
            refine D8.nb.kept hgrow (fun e => ?_)
            rcases D8.own.row.ow.2 with ⟨e1, _⟩ | ⟨g', cap', cur', e1, _, hg', _⟩
            · rw [e1] at e; cases e
            · rw [e1] at e
              have e2 : g' = h := (Option.some.inj e).symm
              have h3 := D8.nb
              unfold StB at h3
              rw [e2, h3] at hg'
              simp only [Option.some.injEq, Obj.cells.injEq] at hg'
              exact absurd hg'.2.1 (by decide)
          clear hrow hsz hown' hgrow sm HD7
          go_wp2
          go_roundw
          case rel => exact ⟨k - 1, n + 1, _, by go_num, by omega, by omega, HQ.out.1, HQ.out.2⟩
          case measure => simp [intOf]; omega
    · have hk1 : k ≤ 0 := by omega
      go_wp2_with fail
      refine (once_any B c 40 _ HD.out.cur (by omega)).mono ?_
      rintro e w5 ⟨b, rfl, C, G⟩
      have HD5 : Hid (DrP w w5 B c h (ndA (.slice none 0 0) (.slice none 0 0) (.slice none 0 0) (.slice none 0 0) (.slice none 0 0) nd) _ ps) := HD.out.draw C G
      have HF5 : Hid (FewP ps 42) := HF.out.mono (by omega)
      clear C G HD HF
      cases b with
      | false =>
        go_wp2
        go_ret
        exact ⟨_, ps, rfl, HF5.out, HD5.out.own, HD5.out.cur, HD5.out.gr⟩
      | true =>
        have H6 : Hid (OwnP (w5.alloc (.cells #[] 35)) w.heap.size (.slice (some ⟨w5.heap.size, 0, none⟩) 0 0) [] ∧ Cur (w5.alloc (.cells #[] 35)) B c ∧ w.grownBy (w5.alloc (.cells #[] 35)) (some c)) := by
          have D8 := HD5.out.below ((Below.refl w5.heap.size w5).alloc (Nat.le_refl _) (.cells #[] 35))
          exact ⟨OwnP.lit w5 _ HD5.out.gr.size, D8.cur, D8.gr⟩
        clear HD5 HF5
        go_wp2
        go_loopw [3] (fun out wr => ∃ (ao : Option Addr) (cap n : Nat) (ps : List (Value × Mg)), out = .slice ao n cap ∧ n = ps.length ∧ Hid (FewP ps 42) ∧ Hid (OwnP wr w.heap.size (.slice ao n cap) ps ∧ Cur wr B c ∧ w.grownBy wr (some c))) (fun out _ => 42 - lenV out)
        case atStart => exact ⟨_, _, 0, [], rfl, rfl, ⟨Nat.zero_le _, by simp⟩, H6⟩
        case round =>
          clear H6
          obtain ⟨ao, cap, n', qs, rfl, hnq, HG, HE⟩ := hrel
          subst hnq
          go_wp2_with fail
          refine (below_any B c 2 _ HE.out.2.1 (by omega)).mono ?_
          rintro e w6 ⟨x, rfl, lx, ux, -, C, G⟩
          have vx := ux (by omega)
          have HE6 : Hid (OwnP w6 w.heap.size (.slice ao qs.length cap) qs ∧ Cur w6 B c ∧ w.grownBy w6 (some c)) := ⟨HE.out.1.kept G hlt.2, C, HE.out.2.2.trans G⟩
          clear ux C G HE
          have hn42 : qs.length ≤ 42 := by have := HG.out.1; omega
          by_cases hl : (qs.length : Int) < 40 + x
          · have m1 : Mine w6 w6.heap.size (.slice none 0 0) ([] : List Int) := .inr ⟨rfl, _, _, rfl, by decide, fun _ => rfl⟩
            have hrow : (w6.alloc (.cells (mgA (.slice none 0 0) ⟨0, 1, 0, 0, 0, 0, 0, Hd.zero⟩) 35)).ownsRow w.heap.size 35 11 (.slice ao qs.length cap) (msC qs).length (flatC (msC qs)) := (HE6.out.1.row.below ((Below.refl _ _).alloc (Nat.le_refl _) _)).ow
            have hsz : w.heap.size ≤ (w6.alloc (.cells (mgA (.slice none 0 0) ⟨0, 1, 0, 0, 0, 0, 0, Hd.zero⟩) 35)).heap.size := by rw [World.size_alloc]; exact Nat.le_succ_of_le HE6.out.2.2.size
            have hlm : (msC qs).length ≤ 42 := by rw [msC_len]; omega
            go_wp2_with (first | (at_builtin; refine wpList_append_own _ rfl _ _ 24 rfl w.heap.size 35 i0 (.agg zeroMg) 11 104 Try.underlying24 hi hz0 hz1 hz2 rfl (by decide) _ _ _ rfl hrow ⟨w6.heap.size, 0, none⟩ 1 1 (mgA (.slice none 0 0) ⟨0, 1, 0, 0, 0, 0, 0, Hd.zero⟩).toList rfl rfl (new_cells w6 _ _) (mgA_each _ rfl) (by unfold maxLen; omega) (by omega) hsz ?_) | (refine wpList_litM rfl _ rfl (.slice none 0 0) ⟨0, 1, 0, 0, 0, 0, 0, Hd.zero⟩ rfl ?_))
            intro v' w8 hown' hgrow _
            have HQ : Hid (FewP (qs ++ [(.slice none 0 0, ⟨0, 1, 0, 0, 0, 0, 0, Hd.zero⟩)]) 42 ∧ OwnP w8 w.heap.size v' (qs ++ [(.slice none 0 0, ⟨0, 1, 0, 0, 0, 0, 0, Hd.zero⟩)]) ∧ Cur w8 B c ∧ w.grownBy w8 (some c)) := by
              have hblk : ∀ x, (Value.slice ao qs.length cap).ownBlock = some x → w.heap.size ≤ x := fun x e => (HE6.out.1.row.lt x (by simp [e])).1
              have hnc : (Value.slice ao qs.length cap).ownBlock ≠ some c := fun e => by have := hblk _ e; omega
              have B6 : Below w6.heap.size w6 (w6.alloc (.cells (mgA (.slice none 0 0) ⟨0, 1, 0, 0, 0, 0, 0, Hd.zero⟩) 35)) := (Below.refl _ _).alloc (Nat.le_refl _) _
              have G6 : w.grownBy (w6.alloc (.cells (mgA (.slice none 0 0) ⟨0, 1, 0, 0, 0, 0, 0, Hd.zero⟩) 35)) (some c) := HE6.out.2.2.trans (World.grownBy_alloc _ _ _)
              have hle : qs.length ≤ 41 := by omega
              exact ⟨FewP.push ⟨hle, HG.out.2⟩ (Nat.zero_le _), HE6.out.1.pushLt HE6.out.1 m1 HE6.out.2.2.size hown' hgrow, (HE6.out.2.1.below B6).kept hgrow hnc (fun x e => by have := hblk _ e; omega), grown_ownU G6 hgrow hblk⟩
            obtain ⟨ao', cap', rfl⟩ := HQ.out.2.1.rd.form
            have hlen : (qs ++ [((.slice none 0 0 : Value), (⟨0, 1, 0, 0, 0, 0, 0, Hd.zero⟩ : Mg))]).length = qs.length + 1 := by simp
            obtain ⟨rs, hrs⟩ : ∃ rs, rs = qs ++ [((.slice none 0 0 : Value), (⟨0, 1, 0, 0, 0, 0, 0, Hd.zero⟩ : Mg))] := ⟨_, rfl⟩
            rw [← hrs] at HQ hlen ⊢
            clear hrow hsz hown' hgrow HE6 m1 hrs
            go_wp2
            go_roundw
            case rel => exact ⟨ao', cap', rs.length, rs, rfl, rfl, HQ.out.1, HQ.out.2⟩
            case measure => simp [lenV]; omega
          · go_wp2
            go_ret
            exact ⟨_, qs, rfl, HG.out, HE6.out⟩

set_option maxRecDepth 20000 in
set_option maxHeartbeats 1000000 in
theorem drawPosted_any (B : Nat) (v : Value) (w : World) (h : CodeOk w B v) (hB : B ≤ w.heap.size) :
    Calls Try.prog 9 #[v] w fun e w' => ∃ a b ps qs, e = .returned (.tuple #[a, b]) ∧ FewP ps 42 ∧ FewP qs 42 ∧ OwnP w' w.heap.size a ps ∧ OwnP w' w.heap.size b qs ∧ (∀ x ∈ psB a ps, x ∉ psB b qs) ∧ Below w.heap.size w w' := by
  go_enter Try.func9, Try.ntmps9
  go_wp2_with fail
  refine (new_code B v _ h hB).mono ?_
  rintro e w1 ⟨c, rfl, hc, C1, G1⟩
  go_wp2_with fail
  refine (l16draw_any B c _ C1).mono ?_
  rintro e w2 ⟨a, ps, rfl, fa, oa, C2, G2⟩
  go_wp2_with fail
  refine (l16draw_any B c _ C2).mono ?_
  rintro e w3 ⟨b, qs, rfl, fb, ob, C3, G3⟩
  have hb := below_of_cur G1 hc (G2.trans G3)
  have hc1 := C1.lt
  have oa3 := oa.kept G3 hc1.2
  have h1 := G1.size
  have h2 := G2.size
  have hap : ∀ x ∈ psB a ps, x ∉ psB b qs := fun x hx hy => by have q1 := (oa.lt x hx).2; have q2 := (ob.lt x hy).1; omega
  have HR : Hid (FewP ps 42 ∧ FewP qs 42 ∧ OwnP w3 w.heap.size a ps ∧ OwnP w3 w.heap.size b qs ∧ (∀ x ∈ psB a ps, x ∉ psB b qs) ∧ Below w.heap.size w w3) := ⟨fa, fb, oa3.mono h1, ob.mono (by omega), hap, hb⟩
  clear C1 C2 C3 G1 G2 G3 h oa ob oa3 fa fb hap hb hc1
  go_wp2
  go_ret2
  exact ⟨_, _, _, _, rfl, HR.out⟩

set_option maxRecDepth 20000 in
set_option maxHeartbeats 1000000 in
theorem drawTaken_any (B : Nat) (v : Value) (w : World) (h : CodeOk w B v) (hB : B ≤ w.heap.size) :
    Calls Try.prog 11 #[v] w fun e w' => ∃ a ps i, e = .returned (.tuple #[a, .int .i64 i]) ∧ FewP ps 42 ∧ (-1 ≤ i ∧ i ≤ 7) ∧ OwnP w' w.heap.size a ps ∧ Below w.heap.size w w' := by
  go_enter Try.func11, Try.ntmps11
  go_wp2_with fail
  refine (new_code B v _ h hB).mono ?_
  rintro e w1 ⟨c, rfl, hc, C1, G1⟩
  go_wp2_with fail
  refine (l16draw_any B c _ C1).mono ?_
  rintro e w2 ⟨a, ps, rfl, fa, oa, C2, G2⟩
  go_wp2_with fail
  refine (from_any B c (-1) 7 _ C2 (by omega) (by omega) (by omega)).mono ?_
  rintro e w3 ⟨i, rfl, li, ui, C3, G3⟩
  have hb := below_of_cur G1 hc (G2.trans G3)
  have hc1 := C1.lt
  have oa3 := oa.kept G3 hc1.2
  have h1 := G1.size
  have HR : Hid (FewP ps 42 ∧ OwnP w3 w.heap.size a ps ∧ Below w.heap.size w w3) := ⟨fa, oa3.mono h1, hb⟩
  clear C1 C2 C3 G1 G2 G3 h oa oa3 fa hb hc1
  go_wp2
  go_ret2
  exact ⟨_, _, _, rfl, HR.out.1, ⟨by omega, by omega⟩, HR.out.2⟩

set_option maxRecDepth 20000 in
set_option maxHeartbeats 1000000 in
theorem drawTwice_any (B : Nat) (v : Value) (w : World) (h : CodeOk w B v) (hB : B ≤ w.heap.size) :
    Calls Try.prog 13 #[v] w fun e w' => ∃ a ps i, e = .returned (.tuple #[a, .int .i64 i]) ∧ FewP ps 42 ∧ (-1 ≤ i ∧ i ≤ 7) ∧ OwnP w' w.heap.size a ps ∧ Below w.heap.size w w' := by
  go_enter Try.func13, Try.ntmps13
  go_wp2_with fail
  refine (drawTaken_any B v _ h hB).mono ?_
  rintro e w1 ⟨a, ps, i, rfl, hr⟩
  go_wp2
  go_ret2
  exact ⟨_, _, _, rfl, hr⟩
end Go.Proofs.Ytjbfncjdedigdaa
