/- The model's posts: PostOk, l16CopyMsg, l16Copy, l16Without. -/
import Derived.Test.YtjbfncjdedigdaaPst
import Derived.Test.YtjbfncjdedigdaaM17
namespace Go.Proofs.Ytjbfncjdedigdaa
open Go.ChangeShapes Go.WideShapes Go.ChangeAt Go.RowKit

set_option maxRecDepth 20000 in
set_option maxHeartbeats 1000000 in
theorem spostok_any (v : Value) (ps : List (Value × Mg)) (w : World) (hr : RdP w v ps) (hs : SmP ps) :
    Calls Try.prog 18 #[v] w fun e w' => e = .returned (.bool (postOk (msOf ps))) ∧ Below w.heap.size w w' := by
  obtain ⟨ao, cap, rfl⟩ := hr.form
  have HR : Hid (∀ wx, Below w.heap.size w wx → RdP wx (.slice ao ps.length cap) ps) := fun wx b => hr.below b
  obtain ⟨-, hnc, hcm, -⟩ := hr.el
  unfold maxLen at hcm
  clear hr
  obtain ⟨n, hn⟩ : ∃ n, n = ps.length := ⟨_, rfl⟩
  rw [← hn] at HR hnc ⊢
  have HN : Hid (n = ps.length) := hn
  have HSm : Hid (SmP ps) := hs
  clear hn hs
  obtain ⟨r, hr⟩ : ∃ r, r = postOk (msOf ps) := ⟨_, rfl⟩
  rw [← hr]
  have HRr : Hid (r = postOk (msOf ps)) := hr
  clear hr
  by_cases h40 : (n : Int) > 40
  · have HE : Hid (r = false) := by
      rw [Hid, HRr.out]
      unfold postOk
      rw [msOf_len, ← HN.out]
      simp; omega
    go_enter Try.func18, Try.ntmps18
    go_wp2
    go_ret
    exact ⟨ret_bool (by rw [HE.out]), Below.refl _ _⟩
  · go_enter Try.func18, Try.ntmps18
    go_wp2
    go_loopw [3] (fun i wr => ∃ j : Nat, j ≤ n ∧ i = .int .i64 j ∧ Hid (((msOf ps).take j).all Mg.ok = true ∧ Below w.heap.size w wr)) (fun i _ => n - (intOf i).toNat)
    case atStart => exact ⟨0, Nat.zero_le _, rfl, by simp, Below.refl _ _⟩
    case round =>
      obtain ⟨j, hj, rfl, HI⟩ := hrel
      by_cases hlt : (j : Int) < (n : Int)
      · obtain ⟨b, off, u, m, he, rfl, hrk, hc⟩ := (HR.out wr HI.out.2).el.2.2.2 j (by omega)
        have C := smsg_any u m wr hrk (by have := HSm.out.at he; omega)
        have HC : Hid (∀ i, i < 11 → wr.cell? ⟨b, off + j * 11 + i, none⟩ = (mgA u m)[i]?) := hc
        have HE : Hid (ps[j]? = some (u, m)) := he
        obtain ⟨x, hx⟩ : ∃ x, x = m.ok := ⟨_, rfl⟩
        rw [← hx] at C
        have HX : Hid (x = m.ok) := hx
        clear hc hrk he hx
        go_wp2_with (refine wpList_getO Try.isMg rfl _ rfl b (off + j * 11) rfl (mgA u m) rfl HC.out ?_)
        refine C.mono ?_
        rintro e w2 ⟨rfl, b2⟩
        have HB : Hid (Below w.heap.size w w2) := HI.out.2.trans (b2.mono HI.out.2.size)
        clear b2 C HC
        cases x with
        | false =>
          have HF : Hid (r = false) := by rw [Hid, HRr.out]; unfold postOk; rw [all_not_ok _ j m (msOf_at HE.out) HX.out.symm]; simp
          clear HX
          go_wp2
          go_ret
          exact ⟨ret_bool (by rw [HF.out]), HB.out⟩
        | true =>
          have HT : Hid (((msOf ps).take (j + 1)).all Mg.ok = true) := all_take_ok _ j m (msOf_at HE.out) HI.out.1 HX.out.symm
          clear HX
          go_wp2
          go_roundw
          case rel => exact ⟨j + 1, by omega, by go_num, HT.out, HB.out⟩
          case measure => simp [intOf]; omega
      · have HT : Hid (r = true) := by
          have h1 := HI.out.1
          rw [List.take_of_length_le (by rw [msOf_len, ← HN.out]; omega)] at h1
          rw [Hid, HRr.out]
          unfold postOk
          rw [h1, msOf_len, ← HN.out]
          simp; omega
        go_wp2
        go_ret
        exact ⟨ret_bool (by rw [HT.out]), HI.out.2⟩

/- A message in its box, the answer's block behind it. -/
structure MgBx (w wx : World) (v : Value) (m : Mg) : Prop where
  p0 : StB wx w.heap.size 35 (mgA v m)
  q0 : StB wx (w.heap.size + 1) 35 zeroMg
  bl : Below w.heap.size w wx
  sz : w.heap.size + 2 ≤ wx.heap.size
  rd : Reads wx v m.h.ks
theorem MgBx.start {w : World} {v : Value} {m : Mg} (hr : Reads w v m.h.ks) : MgBx w ((w.alloc (.cells (mgA v m) 35)).alloc (.cells zeroMg 35)) v m := by
  have b2 : Below w.heap.size w ((w.alloc (.cells (mgA v m) 35)).alloc (.cells zeroMg 35)) := ((Below.refl _ _).alloc (Nat.le_refl _) _).alloc (by simp) _
  refine ⟨(StB.new w _ _).alloc _, ?_, b2, by simp, hr.below b2 (Nat.le_refl _)⟩
  have := StB.new (w.alloc (.cells (mgA v m) 35)) 35 zeroMg
  rwa [World.size_alloc] at this
theorem MgBx.next {w wx wy : World} {v : Value} {m : Mg} (d : MgBx w wx v m) (b : Below wx.heap.size wx wy) : MgBx w wy v m :=
  ⟨d.p0.below b, d.q0.below b, d.bl.trans (b.mono d.bl.size), Nat.le_trans d.sz b.size, d.rd.below b (Nat.le_refl _)⟩
theorem mg_hold {w : World} {g : Nat} {t : TypeId} {v : Value} {m : Mg} (h : StB w g t (mgA v m)) : ∀ i, i < 4 → w.cell? ⟨g, 7 + i, none⟩ = (hdA v m.h)[i]? := by
  intro i hi
  rw [cell_of_row w g (7 + i) _ _ _ h]
  match i, hi with
  | 0, _ => rfl
  | 1, _ => rfl
  | 2, _ => rfl
  | 3, _ => rfl

set_option maxRecDepth 20000 in
set_option maxHeartbeats 1000000 in
theorem s16copym_any (v : Value) (m : Mg) (w : World) (hr : Reads w v m.h.ks) (hl : m.h.ks.length ≤ 1048576) :
    Calls Try.prog 40 #[MgV v m] w fun e w' => ∃ u, e = .returned (MgV u m) ∧ Own w' w.heap.size u m.h.ks ∧ Below w.heap.size w w' := by
  obtain ⟨w1, hw1⟩ : ∃ w1, w1 = (w.alloc (.cells (mgA v m) 35)).alloc (.cells zeroMg 35) := ⟨_, rfl⟩
  have HB : Hid (MgBx w w1 v m) := by rw [hw1]; exact MgBx.start hr
  have c1 := s8copy_any v m.h w1 HB.out.rd (by omega)
  clear hr hl
  unfold HV at c1
  unfold MgV
  go_enter Try.func40, Try.ntmps40
  go_upto_region 1 with fail
  have e0 : w1 = (w.alloc (.cells (mgA v m) 35)).alloc (.cells #[.int .i64 0, .int .i64 0, .int .i64 0, .int .i64 0, .int .i64 0, .int .i64 0, .int .i64 0, .slice none 0 0, .int .i64 0, .int .i64 0, .int .i64 0] 35) := hw1
  rw [← e0]
  clear hw1 e0
  go_wp2_with (refine wpList_getO Try.isH rfl _ rfl w.heap.size 7 rfl (hdA v m.h) rfl (mg_hold HB.out.p0) ?_)
  refine c1.mono ?_
  rintro e w2 ⟨u, rfl, o2, b2⟩
  have D2 := HB.out.next b2
  have hs := HB.out.sz
  have hu : u.oneCell' = true := reads_one o2.reads
  have HO : Hid (Own w2 w1.heap.size u m.h.ks) := o2
  clear c1 HB b2 o2
  go_wp2_with (first
    | (refine wpList_putPart Try.isH rfl _ _ rfl w.heap.size 7 35 (mgA v m) (hdA u m.h) (mgA u m) rfl rfl rfl D2.p0 (Nat.le_refl 11) (hdA_one _ hu) rfl ?_; intro w3 s3 g3)
    | (refine wpList_getS Try.isMg rfl _ rfl w.heap.size rfl (mgA u m) rfl s3 ?_)
    | (refine wpList_putS Try.isMg rfl _ _ rfl (w.heap.size + 1) (mgA u m) zeroMg rfl rfl rfl rfl (mgA_one _ hu) (D2.q0.kept g3 (by intro e; have := Option.some.inj e; omega)) ?_; intro we se ge))
  refine bodyPost_ret (results_S Try.isMg rfl _ _ (w.heap.size + 1) _ rfl rfl se) rfl ?_
  exact ⟨_, rfl, ((HO.out.keptLt g3 (by omega)).keptLt ge (by omega)).mono (by omega), (D2.bl.grown g3 D2.bl.size (fun x e => by cases e; omega)).grown ge (Nat.le_trans D2.bl.size g3.size) (fun x e => by cases e; omega)⟩

theorem Try.infoM : (Try.prog.info? 35).map (fun i => (i.zero, i.size, i.bytes)) = some (some (.agg zeroMg), 11, 104) := by kernel_rfl
theorem run_litM (w : World) (u : Value) (m : Mg) : (Instr.buildSlice 24 1 #[(0, .agg (mgA u m))]).run Try.prog w = .ok (.slice (some ⟨w.heap.size, 0, none⟩) 1 1) (w.alloc (.cells (mgA u m) 35)) := by
  unfold mgA
  kernel_rfl
theorem wpList_litM {ops : Array Oper} {rest : List Oper} {o : Oper} {a : Act} {w : World} {Q : Exit → Act → World → Prop} (hgd : o.guard = none) (x : Operand) (ho : o.op = .buildSlice 24 1 #[(0, x)]) (u : Value) (m : Mg) (hx : a.eval x = .agg (mgA u m))
    (h : wpList Try.prog ops Q rest (a.put o.dst (.slice (some ⟨w.heap.size, 0, none⟩) 1 1)) (w.alloc (.cells (mgA u m) 35))) : wpList Try.prog ops Q (o :: rest) a w := by
  refine wpList_plain hgd fun K hK => ?_
  have hp : (#[((0 : Nat), x)].map fun q => (q.1, a.eval q.2)) = #[(0, .agg (mgA u m))] := by simp [hx]
  unfold Oper.wp execOp
  simp only [ho, hp, Sem.run_bind, run_litM, Result.andThen_ok]
  exact hK _ _ h
theorem new_cells (w : World) (t : TypeId) (cs : Array Value) : ∀ j u, cs.toList[j]? = some u → (w.alloc (.cells cs t)).cell? ((⟨w.heap.size, 0, none⟩ : Addr).add j) = some u := by
  intro j u h
  rw [show (⟨w.heap.size, 0, none⟩ : Addr).add j = ⟨w.heap.size, j, none⟩ by unfold Addr.add; split <;> simp_all, (StB.new w t cs).cell j (by simpa using h)]
theorem mgA_each {v : Value} (m : Mg) (hv : v.oneCell' = true) : ∀ u ∈ (mgA v m).toList, u.oneCell' = true := fun u hu => (Array.all_eq_true_iff_forall_mem.1 (mgA_one m hv)) u (by simpa using hu)
theorem take_snocM (ms : List Mg) (j : Nat) (m : Mg) (e : ms[j]? = some m) : ms.take (j + 1) = ms.take j ++ [m] := by
  obtain ⟨hj, rfl⟩ := List.getElem?_eq_some_iff.1 e
  exact List.take_succ_eq_append_getElem hj
theorem msOf_push (ps : List (Value × Mg)) (u : Value) (m : Mg) : msOf (ps ++ [(u, m)]) = msOf ps ++ [m] := by simp [msOf]

set_option maxRecDepth 20000 in
set_option maxHeartbeats 1000000 in
theorem s16copy_any (v : Value) (ps : List (Value × Mg)) (w : World) (hr : RdP w v ps) (hs : SmP ps) (hl : ps.length ≤ 1048576) :
    Calls Try.prog 37 #[v] w fun e w' => ∃ u qs, e = .returned u ∧ msOf qs = msOf ps ∧ OwnP w' w.heap.size u qs ∧ Below w.heap.size w w' := by
  obtain ⟨i0, hi, hz0, hz1, hz2⟩ := info_parts Try.infoM
  obtain ⟨ao, cap, rfl⟩ := hr.form
  have HR : Hid (∀ wx, Below w.heap.size w wx → RdP wx (.slice ao ps.length cap) ps) := fun wx b => hr.below b
  obtain ⟨-, hnc, hcm, -⟩ := hr.el
  unfold maxLen at hcm
  clear hr
  obtain ⟨n, hn⟩ : ∃ n, n = ps.length := ⟨_, rfl⟩
  rw [← hn] at HR hnc hl ⊢
  have HN : Hid (n = ps.length) := hn
  have HSm : Hid (SmP ps) := hs
  clear hn hs
  go_enter Try.func37, Try.ntmps37
  go_wp2
  go_loopw [3, 4] (fun out i wr => ∃ j : Nat, ∃ qs, j ≤ n ∧ i = .int .i64 j ∧ Hid (msOf qs = (msOf ps).take j ∧ OwnP wr w.heap.size out qs ∧ Below w.heap.size w wr)) (fun _ i _ => n - (intOf i).toNat)
  case atStart => exact ⟨0, [], Nat.zero_le _, rfl, by simp [msOf], OwnP.lit w _ (Nat.le_refl _), (Below.refl _ _).alloc (Nat.le_refl _) _⟩
  case round =>
    obtain ⟨j, qs, hj, rfl, HI⟩ := hrel
    by_cases hlt : (j : Int) < (n : Int)
    · obtain ⟨b, off, u, m, he, rfl, hrk, hc⟩ := (HR.out wr HI.out.2.2).el.2.2.2 j (by omega)
      have C := s16copym_any u m wr hrk (HSm.out.at he)
      have HC : Hid (∀ i, i < 11 → wr.cell? ⟨b, off + j * 11 + i, none⟩ = (mgA u m)[i]?) := hc
      have HE : Hid ((msOf ps)[j]? = some m) := msOf_at he
      have hlq : qs.length = j := by
        have h1 := congrArg List.length HI.out.1
        rw [msOf_len, List.length_take, msOf_len, ← HN.out] at h1
        omega
      clear hc hrk he
      go_wp2_with (refine wpList_getO Try.isMg rfl _ rfl b (off + j * 11) rfl (mgA u m) rfl HC.out ?_)
      refine C.mono ?_
      rintro e w2 ⟨u2, rfl, o2, b2⟩
      have hu : u2.oneCell' = true := reads_one o2.reads
      have HP : Hid (OwnP w2 w.heap.size u3 qs ∧ Below w.heap.size w w2 ∧ Mine w2 wr.heap.size u2 m.h.ks ∧ Below wr.heap.size wr w2) := ⟨HI.out.2.1.below b2, HI.out.2.2.trans (b2.mono HI.out.2.2.size), .inl o2, b2⟩
      clear C HC o2 b2
      unfold MgV
      have hrow : (w2.alloc (.cells (mgA u2 m) 35)).ownsRow w.heap.size 35 11 u3 (msC qs).length (flatC (msC qs)) := (HP.out.1.row.below ((Below.refl _ _).alloc (Nat.le_refl _) _)).ow
      have hsz : w.heap.size ≤ (w2.alloc (.cells (mgA u2 m) 35)).heap.size := by rw [World.size_alloc]; exact Nat.le_succ_of_le HP.out.2.1.size
      have hlm := msC_len qs
      go_wp2_with (first | (at_builtin; refine wpList_append_own _ rfl _ _ 24 rfl w.heap.size 35 i0 (.agg zeroMg) 11 104 Try.underlying24 hi hz0 hz1 hz2 rfl (by decide) _ _ _ rfl hrow ⟨w2.heap.size, 0, none⟩ 1 1 (mgA u2 m).toList rfl rfl (new_cells w2 _ _) (mgA_each m hu) (by unfold maxLen; omega) (by omega) hsz ?_) | (refine wpList_litM rfl _ rfl u2 m rfl ?_))
      intro v' w4 hown' hgrow _
      replace hown' : w4.ownsRow w.heap.size 35 11 v' ((msC qs).length + 1) (flatC (msC qs) ++ (mgA u2 m).toList) := by rw [hlm, hlq]; exact hown'
      have HQ : Hid (OwnP w4 w.heap.size v' (qs ++ [(u2, m)]) ∧ Below w.heap.size w w4 ∧ msOf (qs ++ [(u2, m)]) = (msOf ps).take (j + 1)) := by
        refine ⟨HI.out.2.1.push HP.out.2.2.1 HP.out.2.2.2 HI.out.2.2.size hown' hgrow, (HP.out.2.1.alloc HP.out.2.1.size _).grown hgrow (by rw [World.size_alloc]; exact Nat.le_succ_of_le HP.out.2.1.size) (fun x e => (HP.out.1.row.lt x (by simp [e])).1), ?_⟩
        rw [msOf_push, HI.out.1, take_snocM _ j m HE.out]
      clear hrow hsz hown' hgrow
      go_wp2
      go_roundw
      case rel => exact ⟨j + 1, _, by omega, by go_num, HQ.out.2.2, HQ.out.1, HQ.out.2.1⟩
      case measure => simp [intOf]; omega
    · go_wp2
      go_ret
      have h1 := HI.out.1
      rw [List.take_of_length_le (by rw [msOf_len, ← HN.out]; omega)] at h1
      exact ⟨_, rfl, _, h1, HI.out.2.1, HI.out.2.2⟩

theorem erase_take_skip (ms : List Mg) (k j : Nat) (m : Mg) (e : ms[j]? = some m) (h : j ≠ k) : (ms.take (j + 1)).eraseIdx k = (ms.take j).eraseIdx k ++ [m] := by
  rw [take_snocM ms j m e]
  obtain ⟨hj, -⟩ := List.getElem?_eq_some_iff.1 e
  have hl : (ms.take j).length = j := by rw [List.length_take]; omega
  by_cases hk : k < j
  · rw [List.eraseIdx_append_of_lt_length (by omega)]
  · rw [List.eraseIdx_of_length_le (by rw [List.length_append, hl]; simp; omega), List.eraseIdx_of_length_le (by omega)]
theorem erase_take_at (ms : List Mg) (k : Nat) (m : Mg) (e : ms[k]? = some m) : (ms.take (k + 1)).eraseIdx k = (ms.take k).eraseIdx k := by
  rw [take_snocM ms k m e]
  obtain ⟨hj, -⟩ := List.getElem?_eq_some_iff.1 e
  have hl : (ms.take k).length = k := by rw [List.length_take]; omega
  have e2 : (ms.take k).eraseIdx k = ms.take k := List.eraseIdx_of_length_le (by omega)
  rw [e2, List.eraseIdx_append_of_length_le (by omega), hl, Nat.sub_self]
  simp

set_option maxRecDepth 20000 in
set_option maxHeartbeats 1000000 in
theorem s16without_any (v : Value) (k : Nat) (ps : List (Value × Mg)) (w : World) (hr : RdP w v ps) (hs : SmP ps) (hl : ps.length ≤ 1048576) (hk : k ≤ 1048576) :
    Calls Try.prog 39 #[v, .int .i64 k] w fun e w' => ∃ u qs, e = .returned u ∧ msOf qs = (msOf ps).eraseIdx k ∧ OwnP w' w.heap.size u qs ∧ Below w.heap.size w w' := by
  obtain ⟨i0, hi, hz0, hz1, hz2⟩ := info_parts Try.infoM
  obtain ⟨ao, cap, rfl⟩ := hr.form
  have HR : Hid (∀ wx, Below w.heap.size w wx → RdP wx (.slice ao ps.length cap) ps) := fun wx b => hr.below b
  obtain ⟨-, hnc, hcm, -⟩ := hr.el
  unfold maxLen at hcm
  clear hr
  obtain ⟨n, hn⟩ : ∃ n, n = ps.length := ⟨_, rfl⟩
  rw [← hn] at HR hnc hl ⊢
  have HN : Hid (n = ps.length) := hn
  have HSm : Hid (SmP ps) := hs
  clear hn hs
  go_enter Try.func39, Try.ntmps39
  go_wp2
  go_loopw [5, 6] (fun out i wr => ∃ j : Nat, ∃ qs, j ≤ n ∧ i = .int .i64 j ∧ Hid (msOf qs = ((msOf ps).take j).eraseIdx k ∧ OwnP wr w.heap.size out qs ∧ Below w.heap.size w wr)) (fun _ i _ => n - (intOf i).toNat)
  case atStart => exact ⟨0, [], Nat.zero_le _, rfl, by simp [msOf], OwnP.lit w _ (Nat.le_refl _), (Below.refl _ _).alloc (Nat.le_refl _) _⟩
  case round =>
    obtain ⟨j, qs, hj, rfl, HI⟩ := hrel
    by_cases hlt : (j : Int) < (n : Int)
    · obtain ⟨b, off, u, m, he, rfl, hrk, hc⟩ := (HR.out wr HI.out.2.2).el.2.2.2 j (by omega)
      have C := s16copym_any u m wr hrk (HSm.out.at he)
      have HC : Hid (∀ i, i < 11 → wr.cell? ⟨b, off + j * 11 + i, none⟩ = (mgA u m)[i]?) := hc
      have HE : Hid ((msOf ps)[j]? = some m) := msOf_at he
      have hlq : qs.length ≤ j := by
        have h1 := congrArg List.length HI.out.1
        have h2 := List.length_eraseIdx_le ((msOf ps).take j) k
        rw [msOf_len] at h1
        rw [List.length_take] at h2
        omega
      clear hc hrk he
      by_cases hjk : (j : Int) = (k : Int)
      · have HT : Hid (msOf qs = ((msOf ps).take (j + 1)).eraseIdx k) := by
          have : j = k := by omega
          subst this
          rw [Hid, erase_take_at _ j m HE.out, HI.out.1]
        have hb : ((j : Int) != (k : Int)) = false := by simpa using hjk
        clear hjk C
        go_wp2
        go_roundw
        case rel => exact ⟨j + 1, _, by omega, by go_num, HT.out, HI.out.2⟩
        case measure => simp [intOf]; omega
      · have hb : ((j : Int) != (k : Int)) = true := by simpa using hjk
        have HJ : Hid (j ≠ k) := by rw [Hid]; omega
        clear hjk
        go_wp2_with (refine wpList_getO Try.isMg rfl _ rfl b (off + j * 11) rfl (mgA u m) rfl HC.out ?_)
        refine C.mono ?_
        rintro e w2 ⟨u2, rfl, o2, b2⟩
        have hu : u2.oneCell' = true := reads_one o2.reads
        have HP : Hid (OwnP w2 w.heap.size u5 qs ∧ Below w.heap.size w w2 ∧ Mine w2 wr.heap.size u2 m.h.ks ∧ Below wr.heap.size wr w2) := ⟨HI.out.2.1.below b2, HI.out.2.2.trans (b2.mono HI.out.2.2.size), .inl o2, b2⟩
        clear C HC o2 b2
        unfold MgV
        have hrow : (w2.alloc (.cells (mgA u2 m) 35)).ownsRow w.heap.size 35 11 u5 (msC qs).length (flatC (msC qs)) := (HP.out.1.row.below ((Below.refl _ _).alloc (Nat.le_refl _) _)).ow
        have hsz : w.heap.size ≤ (w2.alloc (.cells (mgA u2 m) 35)).heap.size := by rw [World.size_alloc]; exact Nat.le_succ_of_le HP.out.2.1.size
        have hlm : (msC qs).length ≤ j := by rw [msC_len]; exact hlq
        go_wp2_with (first | (at_builtin; refine wpList_append_own _ rfl _ _ 24 rfl w.heap.size 35 i0 (.agg zeroMg) 11 104 Try.underlying24 hi hz0 hz1 hz2 rfl (by decide) _ _ _ rfl hrow ⟨w2.heap.size, 0, none⟩ 1 1 (mgA u2 m).toList rfl rfl (new_cells w2 _ _) (mgA_each m hu) (by unfold maxLen; omega) (by omega) hsz ?_) | (refine wpList_litM rfl _ rfl u2 m rfl ?_))
        intro v' w4 hown' hgrow _
        have HQ : Hid (OwnP w4 w.heap.size v' (qs ++ [(u2, m)]) ∧ Below w.heap.size w w4 ∧ msOf (qs ++ [(u2, m)]) = ((msOf ps).take (j + 1)).eraseIdx k) := by
          refine ⟨HI.out.2.1.push HP.out.2.2.1 HP.out.2.2.2 HI.out.2.2.size hown' hgrow, (HP.out.2.1.alloc HP.out.2.1.size _).grown hgrow (by rw [World.size_alloc]; exact Nat.le_succ_of_le HP.out.2.1.size) (fun x e => (HP.out.1.row.lt x (by simp [e])).1), ?_⟩
          rw [msOf_push, HI.out.1, erase_take_skip _ k j m HE.out HJ.out]
        clear hrow hsz hown' hgrow
        go_wp2
        go_roundw
        case rel => exact ⟨j + 1, _, by omega, by go_num, HQ.out.2.2, HQ.out.1, HQ.out.2.1⟩
        case measure => simp [intOf]; omega
    · go_wp2
      go_ret
      have h1 := HI.out.1
      rw [List.take_of_length_le (by rw [msOf_len, ← HN.out]; omega)] at h1
      exact ⟨_, rfl, _, h1, HI.out.2.1, HI.out.2.2⟩
end Go.Proofs.Ytjbfncjdedigdaa
