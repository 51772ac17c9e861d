/- What the law on frames draws: texts. Lists of bytes of the call's own. -/
import Derived.Test.YtphmjjmgpnlagaaDoorFrame
import Derived.Test.YtphmjjmgpnlagaaDoorCurSta
import Derived.Laws.OwnMore
import Derived.OwnWalk
namespace Go.Proofs.YtphmjjmgpnlagaaDoor
open Go.ChangeShapes Go.WideShapes Go.ChangeAt Go.RowKit

def U (b : UInt8) : Value := .int .u8 (byteI b)
def OwnU (w : World) (base : Nat) (v : Value) (l : Bs) : Prop := w.ownsRow base 5 1 v l.length (l.map U)
theorem Tryd.infoU : (Tryd.prog.info? 5).map (fun i => (i.zero, i.size, i.bytes)) = some (some (.int .u8 0), 1, 1) := by kernel_rfl
theorem OwnU.lt {w : World} {base : Nat} {v : Value} {xs : Bs} (h : OwnU w base v xs) : ∀ k, v.ownBlock = some k → base ≤ k ∧ k < w.heap.size := World.ownsRow.lt h
theorem OwnU.frame {w w' : World} {base : Nat} {v : Value} {xs : Bs} (h : OwnU w base v xs) (e : ∀ b ∈ v.ownBlock.toList, w'.heap[b]? = w.heap[b]?) : OwnU w' base v xs := by
  refine ⟨h.1, ?_⟩
  rcases h.2 with h' | ⟨g, cap, cur, rfl, hb, hg, r⟩
  · exact .inl h'
  · exact .inr ⟨g, cap, cur, rfl, hb, (e g (by simp [Value.ownBlock])).trans hg, r⟩
theorem OwnU.raise {w : World} {base base' : Nat} {v : Value} {xs : Bs} (h : OwnU w base v xs) (hb : ∀ k, v.ownBlock = some k → base' ≤ k) : OwnU w base' v xs := by
  refine ⟨h.1, ?_⟩
  rcases h.2 with h' | ⟨g, cap, cur, rfl, _, r⟩
  · exact .inl h'
  · exact .inr ⟨g, cap, cur, rfl, hb g rfl, r⟩
theorem mapU_one (l : Bs) (b : UInt8) : l.map U ++ [U b] = (l ++ [b]).map U := by simp
theorem litU1 (w : World) (b : UInt8) : ∀ j u, ([U b])[j]? = some u → (w.alloc (.cells #[U b] 5)).cell? ((⟨w.heap.size, 0, none⟩ : Addr).add j) = some u := by
  intro j u hj
  match j, hj with
  | 0, hj => simp at hj; subst hj; simp [Addr.add]
theorem OwnU.kept {w w' : World} {base : Nat} {v : Value} {row : Option Nat} {xs : Bs} (h : OwnU w base v xs) (hg : w.grownBy w' row) (hne : v.ownBlock = none ∨ v.ownBlock ≠ row) : OwnU w' base v xs :=
  World.ownsRow.kept h hg hne
theorem OwnU.notAt {w : World} {base c : Nat} {v : Value} {xs : Bs} (h : OwnU w base v xs) (hc : c < base) : v.ownBlock = none ∨ v.ownBlock ≠ some c := by
  by_cases e : v.ownBlock = none
  · exact .inl e
  · refine .inr fun e2 => ?_
    have := (h.lt c e2).1
    omega
theorem grown_ownU {o a b : World} {c : Nat} {row : Option Nat} (h : o.grownBy a (some c)) (g : a.grownBy b row) (hr : ∀ k, row = some k → o.heap.size ≤ k) : o.grownBy b (some c) :=
  ⟨g.os.trans h.os, g.tape.trans h.tape, g.output.trans h.output, Nat.le_trans h.size g.size, fun k hk hne => (g.block k (Nat.lt_of_lt_of_le hk h.size) (fun e => by have := hr k e.symm; omega)).trans (h.block k hk hne)⟩

/- A list of bytes that is being drawn: new since w0; the cursor stands; nothing else has turned. -/
def DrawnU (w0 w : World) (B c : Nat) (v : Value) (l : Bs) : Prop := OwnU w w0.heap.size v l ∧ Cur w B c ∧ w0.grownBy w (some c) ∧ c < w0.heap.size
theorem DrawnU.draw {w0 w w' : World} {B c : Nat} {v : Value} {l : Bs} (h : DrawnU w0 w B c v l) (C : Cur w' B c) (G : w.grownBy w' (some c)) : DrawnU w0 w' B c v l :=
  ⟨h.1.kept G (h.1.notAt h.2.2.2), C, h.2.2.1.trans G, h.2.2.2⟩
theorem DrawnU.append {w0 w w' : World} {B c : Nat} {v v' : Value} {l : Bs} {b : UInt8} {o : Obj} (h : DrawnU w0 w B c v l) (hB : B ≤ w0.heap.size)
    (hown : w'.ownsRow w0.heap.size 5 1 v' (l.length + 1) (l.map U ++ [U b])) (hg : (w.alloc o).grownBy w' v.ownBlock) : DrawnU w0 w' B c v' (l ++ [b]) := by
  obtain ⟨h1, h2, h3, h4⟩ := h
  have ga : w.grownBy (w.alloc o) (some c) := World.grownBy_alloc w o _
  have hrow : ∀ k, v.ownBlock = some k → w0.heap.size ≤ k := fun k e => (h1.lt k e).1
  refine ⟨?_, ?_, grown_ownU (h3.trans ga) hg hrow, h4⟩
  · unfold OwnU
    rw [← mapU_one]
    simpa using hown
  · exact (h2.kept (World.grownBy_alloc w o none) (by simp) (by simp)).kept hg (by rcases h1.notAt h4 with e | e; rw [e]; simp; exact e) (fun k e => by have := hrow k e; omega)
theorem DrawnU.new {w0 w w' : World} {B c : Nat} {v v' : Value} {l l' : Bs} (h : DrawnU w0 w B c v l) (hown : OwnU w' w.heap.size v' l') (G : w.grownBy w' none) : DrawnU w0 w' B c v' l' :=
  ⟨OwnU.raise hown (fun k hk => Nat.le_trans h.2.2.1.size (hown.lt k hk).1), h.2.1.kept G (by simp) (by simp), grown_ownU h.2.2.1 G (by simp), h.2.2.2⟩
/- Bytes as a string. -/
theorem run_str (w : World) (base : Nat) (v : Value) (l : Bs) (h : OwnU w base v l) (hv : v ≠ .slice none 0 0) : (convert 22 9 v).run Tryd.prog w = .ok (S l) w := by
  rcases h.2 with ⟨e, _⟩ | ⟨g, cap, cur, rfl, hb, hg, hnc, hcm, hcs, ht⟩
  · exact absurd e hv
  · refine run_convert_bytes_back (P := Tryd.prog) w 22 9 5 ⟨g, 0, none⟩ cap l Tryd.underlying22 Tryd.underlying5 Tryd.underlying9 (fun j hj => ?_)
    have := World.ownsRow.cellAt (w := w) h j (by omega)
    rw [show (⟨g, 0, none⟩ : Addr).add j = ⟨g, j, none⟩ by unfold Addr.add; split <;> simp_all, this]
    simp [hj, U, byteI]

theorem zerosU_eq (n : Nat) : (madeCells #[Value.int .u8 0] n).toList = (List.replicate n (0 : UInt8)).map U := by
  rw [toList_madeCells_one, List.map_replicate]; rfl

set_option maxHeartbeats 2000000 in
theorem drawText_any (B c : Nat) (w : World) (h : Cur w B c) :
    Calls Tryd.prog 25 #[.pointer (some ⟨c, 0, none⟩)] w fun e w' => ∃ l : Bs, e = .returned (S l) ∧ l.length ≤ 301 ∧ Cur w' B c ∧ w.grownBy w' (some c) := by
  obtain ⟨i0, hi, hz0, hz1, hz2⟩ := info_parts Tryd.infoU
  have hBc := h.lt
  have HD : Hid (DrawnU w (w.alloc (.cells #[] 5)) B c (.slice (some ⟨w.heap.size, 0, none⟩) 0 0) []) := ⟨World.ownsRow_lit w #[] 0 (Nat.le_refl _) (Nat.zero_le _) rfl, h.below ((Below.refl _ _).alloc (Nat.le_refl _) _), World.grownBy_alloc w _ _, hBc.2⟩
  clear h
  go_enter Tryd.func25, Tryd.ntmps25
  go_wp2_with fail
  refine (below_any B c 7 _ HD.out.2.1 (by omega)).mono ?_
  rintro e w1 ⟨n, rfl, hn0, hn1, hn2, C1, G1⟩
  have hn3 := hn1 (by omega)
  replace HD : Hid (DrawnU w w1 B c _ _) := HD.out.draw C1 G1
  clear hn1 hn2 C1 G1
  go_wp2
  go_loopw [3, 4] (fun v m wr => ∃ (k : Int) (l : Bs) (g cap : Nat), k ≤ 6 ∧ m = .int .i64 k ∧ ((0 < k → (l.length : Int) + k ≤ 6) ∧ l.length ≤ 6) ∧ v = .slice (some ⟨g, 0, none⟩) l.length cap ∧ Hid (DrawnU w wr B c v l)) (fun _ m _ => (intOf m).toNat)
  case atStart => exact ⟨n, [], _, _, by omega, rfl, by simp; omega, rfl, HD⟩
  case round =>
    obtain ⟨k, l, g, cap, hk, rfl, hle, rfl, HR⟩ := hrel
    by_cases hlt : 0 < k
    · go_wp2_with fail
      refine (below_any B c 5 _ HR.out.2.1 (by omega)).mono ?_
      rintro e w2 ⟨x, rfl, hx0, hx1, hx2, C2, G2⟩
      have hx5 := hx1 (by omega)
      have HR1 : Hid (DrawnU w w2 B c _ l) := HR.out.draw C2 G2
      have hown := HR1.out.1
      have hsz := HR1.out.2.2.1.size
      unfold OwnU at hown
      clear hx1 hx2 C2 G2 HR
      have hx4 : x.toNat < (⟨#[97, 98, 32, 48, 49]⟩ : ByteArray).size := by show x.toNat < 5; omega
      go_wp2_with (at_builtin; refine wpList_append_own _ rfl _ _ 22 rfl w.heap.size 5 i0 (.int .u8 0) 1 1 Tryd.underlying22 hi hz0 hz1 hz2 rfl (by decide) _ _ _ rfl (hown.alloc _) _ 1 1 [U ((⟨#[97, 98, 32, 48, 49]⟩ : ByteArray)[x.toNat]'hx4)] rfl rfl (litU1 w2 ((⟨#[97, 98, 32, 48, 49]⟩ : ByteArray)[x.toNat]'hx4)) (by simp [Value.oneCell', U]) (by unfold maxLen; omega) (by omega) (by simp; omega) ?_)
      intro v' w3 hown' hgrow hnil
      have HR2 : Hid (DrawnU w w3 B c v' (l ++ [_])) := HR1.out.append (by omega) hown' hgrow
      obtain ⟨g', cap', hv', -⟩ := World.ownsRow.form HR2.out.1 (by simp)
      subst hv'
      clear hown hown' hgrow HR1 hsz hnil
      go_wp2
      go_roundw
      case rel => exact ⟨k - 1, l ++ [_], g', cap', by omega, by go_num, by simp; omega, rfl, HR2⟩
      case measure => simp [intOf]; omega
    · go_wp2_with fail
      refine (once_any B c 14 _ HR.out.2.1 (by omega)).mono ?_
      rintro e w2 ⟨b1, rfl, C2, G2⟩
      have HR1 : Hid (DrawnU w w2 B c _ l) := HR.out.draw C2 G2
      clear C2 G2 HR
      cases b1 with
      | false =>
        go_wp2_with fail
        refine (once_any B c 40 _ HR1.out.2.1 (by omega)).mono ?_
        rintro e w4 ⟨b2, rfl, C4, G4⟩
        have HR4 : Hid (DrawnU w w4 B c _ l) := HR1.out.draw C4 G4
        clear C4 G4 HR1
        cases b2 with
        | false =>
          have hstr := run_str w4 _ _ _ HR4.out.1 (by simp)
          unfold S at hstr
          go_wp2_with fail
          go_ret
          exact ⟨_, rfl, by omega, HR4.out.2.1, HR4.out.2.2.1⟩
        | true =>
          go_wp2_with fail
          refine (below_any B c 2 _ HR4.out.2.1 (by omega)).mono ?_
          rintro e w5 ⟨y, rfl, hy0, hy1, hy2, C5, G5⟩
          have hy3 := hy1 (by omega)
          have HR5 : Hid (DrawnU w w5 B c _ l) := HR4.out.draw C5 G5
          obtain ⟨m, hm⟩ : ∃ m : Nat, (m : Int) = 300 + y := ⟨(300 + y).toNat, by omega⟩
          clear hy1 hy2 C5 G5 HR4
          go_wp2_with (refine wpList_make_full _ rfl _ _ 22 rfl w5.heap.size 5 i0 (.int .u8 0) 1 Tryd.underlying22 hi hz0 hz1 _ _ _ _ m rfl rfl hm.symm hm.symm (by rw [hz2]; omega) (by unfold maxLen; omega) (Nat.le_refl _) ?_)
          intro w6 hown6 hgr6
          rw [zerosU_eq] at hown6
          have HR6 : Hid (DrawnU w w6 B c (.slice (some ⟨w5.heap.size, 0, none⟩) m m) (List.replicate m 0)) := HR5.out.new (by unfold OwnU; simpa using hown6) hgr6
          clear hown6 hgr6 HR5
          have hstr := run_str w6 _ _ _ HR6.out.1 (by simp)
          unfold S at hstr
          go_wp2_with fail
          go_ret
          exact ⟨_, rfl, by simp; omega, HR6.out.2.1, HR6.out.2.2.1⟩
      | true =>
        have hown := HR1.out.1
        have hsz := HR1.out.2.2.1.size
        unfold OwnU at hown
        go_wp2_with (at_builtin; refine wpList_append_own _ rfl _ _ 22 rfl w.heap.size 5 i0 (.int .u8 0) 1 1 Tryd.underlying22 hi hz0 hz1 hz2 rfl (by decide) _ _ _ rfl (hown.alloc _) _ 1 1 [U 10] rfl rfl (litU1 w2 10) (by simp [Value.oneCell', U]) (by unfold maxLen; omega) (by omega) (by simp; omega) ?_)
        intro v' w3 hown' hgrow hnil
        have HR2 : Hid (DrawnU w w3 B c v' (l ++ [10])) := HR1.out.append (by omega) hown' hgrow
        obtain ⟨g', cap', hv', -⟩ := World.ownsRow.form HR2.out.1 (by simp)
        obtain ⟨n9, hn9⟩ : ∃ n9, n9 = (l ++ [10]).length := ⟨_, rfl⟩
        rw [← hn9] at hv'
        subst hv'
        have hl9 : (l ++ [10]).length ≤ 7 := by simp; omega
        obtain ⟨l9, hl9'⟩ : ∃ l9, l9 = l ++ [10] := ⟨_, rfl⟩
        rw [← hl9'] at HR2 hl9
        clear hown hown' hgrow HR1 hsz hnil hn9 hl9'
        go_wp2_with fail
        refine (once_any B c 40 _ HR2.out.2.1 (by omega)).mono ?_
        rintro e w4 ⟨b2, rfl, C4, G4⟩
        have HR4 : Hid (DrawnU w w4 B c _ l9) := HR2.out.draw C4 G4
        clear C4 G4 HR2
        cases b2 with
        | false =>
          have hstr := run_str w4 _ _ _ HR4.out.1 (by simp)
          unfold S at hstr
          go_wp2_with fail
          go_ret
          exact ⟨_, rfl, by omega, HR4.out.2.1, HR4.out.2.2.1⟩
        | true =>
          go_wp2_with fail
          refine (below_any B c 2 _ HR4.out.2.1 (by omega)).mono ?_
          rintro e w5 ⟨y, rfl, hy0, hy1, hy2, C5, G5⟩
          have hy3 := hy1 (by omega)
          have HR5 : Hid (DrawnU w w5 B c _ l9) := HR4.out.draw C5 G5
          obtain ⟨m, hm⟩ : ∃ m : Nat, (m : Int) = 300 + y := ⟨(300 + y).toNat, by omega⟩
          clear hy1 hy2 C5 G5 HR4
          go_wp2_with (refine wpList_make_full _ rfl _ _ 22 rfl w5.heap.size 5 i0 (.int .u8 0) 1 Tryd.underlying22 hi hz0 hz1 _ _ _ _ m rfl rfl hm.symm hm.symm (by rw [hz2]; omega) (by unfold maxLen; omega) (Nat.le_refl _) ?_)
          intro w6 hown6 hgr6
          rw [zerosU_eq] at hown6
          have HR6 : Hid (DrawnU w w6 B c (.slice (some ⟨w5.heap.size, 0, none⟩) m m) (List.replicate m 0)) := HR5.out.new (by unfold OwnU; simpa using hown6) hgr6
          clear hown6 hgr6 HR5
          have hstr := run_str w6 _ _ _ HR6.out.1 (by simp)
          unfold S at hstr
          go_wp2_with fail
          go_ret
          exact ⟨_, rfl, by simp; omega, HR6.out.2.1, HR6.out.2.2.1⟩
end Go.Proofs.YtphmjjmgpnlagaaDoor
