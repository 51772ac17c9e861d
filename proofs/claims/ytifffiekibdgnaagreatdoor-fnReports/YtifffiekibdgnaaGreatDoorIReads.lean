/- What strings.SplitN of Go's library answers, where the sign is one byte. -/
import Derived.Test.YtifffiekibdgnaaGreatDoorDoor
import Derived.Test.YtifffiekibdgnaaGreatDoorTextSta
import Derived.Test.YtifffiekibdgnaaGreatDoorSta
import Derived.Test.YtifffiekibdgnaaGreatDoorLHold
import Derived.Test.YtifffiekibdgnaaGreatDoorITolds
namespace Go.Proofs.YtifffiekibdgnaaGreatDoor
open Go.ChangeShapes Go.WideShapes Go.ChangeAt Go.RowKit

set_option maxRecDepth 20000 in
set_option maxHeartbeats 400000 in
theorem isidx_any (c : UInt8) (l : Bs) (w : World) :
    Calls Tryz.prog 69 #[S l, .string ⟨#[c]⟩] w fun e w' => e = .returned (.int .i64 (if posB c l = l.length then -1 else (posB c l : Int))) ∧ w' = w := by
  have c0 := Tryz.stringslite_Index_one ⟨l.toArray⟩ c w
  rw [show (⟨l.toArray⟩ : ByteArray).data.toList = l from rfl, index_pos] at c0
  obtain ⟨z, hz⟩ : ∃ z, z = (if posB c l = l.length then -1 else (posB c l : Int)) := ⟨_, rfl⟩
  rw [← hz] at c0 ⊢
  clear hz
  unfold S
  go_enter Tryz.func69, Tryz.ntmps69
  go_wp2_with fail
  refine c0.mono ?_
  rintro e w' ⟨rfl, hw⟩; subst w'
  clear c0
  go_wp2_with fail
  go_ret
  exact ⟨rfl, rfl⟩

theorem zerosS_eq (n : Nat) : (madeCells #[Value.string ⟨#[]⟩] n).toList = (List.replicate n ([] : Bs)).map S := by
  rw [toList_madeCells_one, List.map_replicate]; rfl

/- What stands in the list of n when i pieces are cut and s is still to be cut. -/
def CutInv (c : UInt8) (l : Bs) (k : Nat) (out : List Bs) (s : Bs) : Prop := out.length ≤ k ∧ splitN c k l = out ++ splitN c (k - out.length) s
theorem CutInv.start (c : UInt8) (l : Bs) (k : Nat) : CutInv c l k [] l := ⟨Nat.zero_le _, by simp⟩
theorem CutInv.next {c : UInt8} {l s : Bs} {k : Nat} {out : List Bs} (h : CutInv c l k out s) (hk : out.length < k) (hp : posB c s ≠ s.length) : CutInv c l k (out ++ [before c s]) (behind c s) := by
  refine ⟨by simp; omega, ?_⟩
  rw [h.2, show k - out.length = (k - (out ++ [before c s]).length) + 1 by simp; omega, splitN, posC_is, if_neg hp]
  simp [before, behind]
theorem CutInv.stop {c : UInt8} {l s : Bs} {k : Nat} {out : List Bs} (h : CutInv c l k out s) (hk : out.length = k ∨ posB c s = s.length) : splitN c k l = out ++ [s] := by
  rw [h.2]
  rcases hk with hk | hk
  · rw [hk, Nat.sub_self, splitN]
  · cases k - out.length with
    | zero => rw [splitN]
    | succ m => rw [splitN, posC_is, if_pos hk]
theorem setS_mid (out : List Bs) (m : Nat) (x : Bs) (h : 0 < m) : (out ++ List.replicate m []).set out.length x = (out ++ [x]) ++ List.replicate (m - 1) [] := by
  obtain ⟨k, rfl⟩ : ∃ k, m = k + 1 := ⟨m - 1, by omega⟩
  rw [List.set_append_right _ _ (by omega), Nat.sub_self, List.replicate_succ, List.set_cons_zero]
  simp
theorem below_setS {w wr : World} {g j : Nat} {x : Value} (h : Below w.heap.size w wr) (hg : w.heap.size ≤ g) : Below w.heap.size w (wr.setCell ⟨g, j, none⟩ x) := h.setCell (p := ⟨g, j, none⟩) hg x

theorem cut_reads {w : World} {base g n : Nat} {out : List Bs} {q : Bs} (h : OwnS w base (.slice (some ⟨g, 0, none⟩) n n) ((out ++ List.replicate (n - out.length) []).set out.length q)) (hn : out.length < n) : ReadsS w (.slice (some ⟨g, 0, none⟩) (out.length + 1) n) (out ++ [q]) := by
  rw [setS_mid out _ q (by omega)] at h
  have h2 := h.reads.take (out.length + 1) (by simp)
  rwa [List.take_append_of_le_length (by simp), List.take_of_length_le (by simp)] at h2

set_option maxRecDepth 20000 in
set_option maxHeartbeats 4000000 in
theorem igen_any (m : Nat) (m1 : 1 ≤ m) (m2 : m ≤ 100) (l : Bs) (w : World) (hl : l.length ≤ 1048576) :
    Calls Tryz.prog 51 #[S l, .string ⟨#[32]⟩, .int .i64 0, .int .i64 m] w fun e w' => ∃ v, e = .returned v ∧ ReadsS w' v (splitN 32 (min m (l.length + 1) - 1) l) ∧ Below w.heap.size w w' := by
  obtain ⟨i0, hi, hz0, hz1, hz2⟩ := info_parts Tryz.infoS
  obtain ⟨n, hn⟩ : ∃ n : Nat, n = min m (l.length + 1) := ⟨_, rfl⟩
  rw [← hn]
  have hn1 : 1 ≤ n := by omega
  have hn5 : n ≤ 100 := by omega
  have hm0 : ¬ (m : Int) = 0 := by omega
  have hm1 : ¬ (m : Int) < 0 := by omega
  have hmin : min (m : Int) ((l.length : Int) + 1) = n := by omega
  have hsz : (⟨l.toArray⟩ : ByteArray).size = l.length := rfl
  clear hn
  unfold S
  go_enter Tryz.func51, Tryz.ntmps51
  go_wp2_with (refine wpList_make_full _ rfl _ _ 48 rfl w.heap.size 9 i0 (.string ⟨#[]⟩) 1 Tryz.underlying48 hi hz0 hz1 _ _ _ _ n rfl rfl rfl rfl (by rw [hz2]; omega) (by unfold maxLen; omega) (Nat.le_refl _) ?_)
  intro w1 hown1 hgr1
  rw [zerosS_eq] at hown1
  have HO : Hid (OwnS w1 w.heap.size (.slice (some ⟨w.heap.size, 0, none⟩) n n) ([] ++ List.replicate n []) ∧ Below w.heap.size w w1) := by
    refine ⟨?_, (Below.refl _ _).grown hgr1 (Nat.le_refl _) (fun k e => by cases e)⟩
    unfold OwnS
    simpa using hown1
  clear hown1 hgr1
  go_wp2
  go_loopw [0, 10] (fun s i wr => ∃ (q : Bs) (out : List Bs), s = .string ⟨q.toArray⟩ ∧ i = .int .i64 out.length ∧ (out.length : Int) ≤ (n : Int) - 1 ∧ (q.length : Int) ≤ l.length ∧ Hid (OwnS wr w.heap.size (.slice (some ⟨w.heap.size, 0, none⟩) n n) (out ++ List.replicate (n - out.length) []) ∧ Below w.heap.size w wr ∧ CutInv 32 l (n - 1) out q)) (fun _ i _ => n - (intOf i).toNat)
  case atStart => exact ⟨l, [], rfl, rfl, by simp; omega, by omega, by simpa using HO.out.1, HO.out.2, CutInv.start _ _ _⟩
  case round =>
    obtain ⟨q, out, rfl, rfl, ho, hq, HR⟩ := hrel
    clear HO
    have hqz : (⟨q.toArray⟩ : ByteArray).size = q.length := rfl
    have hlen : (out ++ List.replicate (n - out.length) []).length = n := by simp; omega
    have HST : Hid (∀ x, _) := fun x => HR.out.1.put hlen.symm out.length (by omega) x
    have c1 := fun wx => isidx_any 32 q wx
    have hple := posB_le 32 q
    by_cases hlt : (out.length : Int) < (n : Int) - 1
    · by_cases hp : posB 32 q = q.length
      · have HF : Hid (splitN 32 (n - 1) l = out ++ [q]) := HR.out.2.2.stop (.inr hp)
        simp only [if_pos hp] at c1
        obtain ⟨hf, ⟨y, hc⟩, ho2⟩ := HST.out q
        unfold S at ho2 c1
        clear hp
        go_wp2_with fail
        refine (c1 _).mono ?_
        rintro e w' ⟨rfl, hw⟩; subst w'
        clear c1
        go_wp2
        go_ret
        rw [HF.out]
        exact ⟨_, rfl, cut_reads ho2 (by omega), below_setS HR.out.2.1 (Nat.le_refl _)⟩
      · simp only [if_neg hp] at c1
        have HN : Hid (CutInv 32 l (n - 1) (out ++ [before 32 q]) (behind 32 q)) := HR.out.2.2.next (by omega) hp
        have hex1 := extract_cut q 0 (posB 32 q)
        have hex2 := extract_cut q (posB 32 q + 1) q.length
        have e1 : cutB q 0 (posB 32 q) = before 32 q := by simp [cutB, before]
        have e2 : cutB q (posB 32 q + 1) q.length = behind 32 q := by simp [cutB, behind]
        rw [e1] at hex1
        rw [e2] at hex2
        have hbl := behind_len_le 32 q
        obtain ⟨p, hpp⟩ : ∃ p, p = posB 32 q := ⟨_, rfl⟩
        obtain ⟨x, hx⟩ : ∃ x, x = before 32 q := ⟨_, rfl⟩
        obtain ⟨y, hy⟩ : ∃ y, y = behind 32 q := ⟨_, rfl⟩
        rw [← hx] at hex1 HN
        rw [← hy] at hex2 HN hbl
        rw [← hpp] at hex1 hex2 hp hple
        simp only [← hpp] at c1
        obtain ⟨hf, ⟨y0, hc⟩, ho2⟩ := HST.out x
        have HO2 : Hid (OwnS (wr.setCell ⟨w.heap.size, out.length, none⟩ (S x)) w.heap.size (.slice (some ⟨w.heap.size, 0, none⟩) n n) ((out ++ [x]) ++ List.replicate (n - (out ++ [x]).length) [])) := by
          rw [setS_mid out _ x (by omega)] at ho2
          rw [List.length_append, List.length_cons, List.length_nil, show n - (out.length + (0 + 1)) = n - out.length - 1 by omega]
          exact ho2
        have HB2 : Hid (Below w.heap.size w (wr.setCell ⟨w.heap.size, out.length, none⟩ (S x))) := below_setS HR.out.2.1 (Nat.le_refl _)
        have hplt : (p : Int) + 1 ≤ (q.length : Int) := by omega
        unfold S at c1 HO2 HB2
        clear e1 e2 hpp hx hy ho2 HST
        go_wp2_with fail
        refine (c1 _).mono ?_
        rintro e w' ⟨rfl, hw⟩; subst w'
        clear c1
        go_wp2
        go_roundw
        case rel => exact ⟨y, out ++ [x], rfl, by simp, by simp; omega, by omega, HO2.out, HB2.out, HN.out⟩
        case measure => simp [intOf]; omega
    · have HF : Hid (splitN 32 (n - 1) l = out ++ [q]) := HR.out.2.2.stop (.inl (by omega))
      obtain ⟨hf, ⟨y, hc⟩, ho2⟩ := HST.out q
      clear c1
      unfold S at ho2
      go_wp2
      go_ret
      rw [HF.out]
      exact ⟨_, rfl, cut_reads ho2 (by omega), below_setS HR.out.2.1 (Nat.le_refl _)⟩

set_option maxRecDepth 20000 in
set_option maxHeartbeats 400000 in
theorem isplit_any (m : Nat) (m1 : 1 ≤ m) (m2 : m ≤ 100) (l : Bs) (w : World) (hl : l.length ≤ 1048576) :
    Calls Tryz.prog 26 #[S l, .string ⟨#[32]⟩, .int .i64 m] w fun e w' => ∃ v, e = .returned v ∧ ReadsS w' v (splitN 32 (min m (l.length + 1) - 1) l) ∧ Below w.heap.size w w' := by
  have c0 := igen_any m m1 m2 l w hl
  go_enter Tryz.func26, Tryz.ntmps26
  go_wp2_with fail
  refine c0.mono ?_
  rintro e w1 ⟨v, rfl, h1, h2⟩
  clear c0
  go_wp2_with fail
  go_ret
  exact ⟨v, rfl, h1, h2⟩
end Go.Proofs.YtifffiekibdgnaaGreatDoor
/- Holdings in the state of a long walk. -/
namespace Go.Proofs.YtifffiekibdgnaaGreatDoor
open Go.ChangeShapes Go.WideShapes Go.ChangeAt Go.RowKit

theorem Sta.mark {w wx wy : World} {L : List Item} {v : Value} {xs ys : List Int} (h : Sta w wx L) (n : Nat) (e : L[n]? = some (Lst v xs)) (o : Own wy 0 v ys) (m : wx.grownBy wy v.ownBlock) : Sta w wy (L.set n (Lst v ys)) :=
  h.turn n e (Turned.of_grown m) (Lst v ys) rfl o
theorem Sta.reads {w wx : World} {L : List Item} {v : Value} {xs : List Int} (h : Sta w wx L) (n : Nat) (e : L[n]? = some (Lst v xs)) : Reads wx v xs := (h.get n e).reads
theorem Sta.oneH {w wx : World} {L : List Item} {v : Value} {xs : List Int} (h : Sta w wx L) (n : Nat) (e : L[n]? = some (Lst v xs)) (k : Hd) : (hdA v k).all (·.oneCell') = true := hdA_one k (reads_one (h.reads n e))
theorem Sta.form {w wx : World} {L : List Item} {v : Value} {xs : List Int} (h : Sta w wx L) (n : Nat) (e : L[n]? = some (Lst v xs)) : Reads wx v xs := (h.get n e).reads
def zeroHd : Array Value := #[.slice none 0 0, .int .i64 0, .int .i64 0, .int .i64 0]
end Go.Proofs.YtifffiekibdgnaaGreatDoor
/- What ReadHolding of the program answers. -/
namespace Go.Proofs.YtifffiekibdgnaaGreatDoor
open Go.ChangeShapes Go.WideShapes Go.ChangeAt Go.RowKit

/- An array of seven numbers in memory. -/
def row7 (f : Nat → Int) : Array Value := #[.int .i64 (f 0), .int .i64 (f 1), .int .i64 (f 2), .int .i64 (f 3), .int .i64 (f 4), .int .i64 (f 5), .int .i64 (f 6)]
theorem sevens {p : Nat → Prop} (h0 : p 0) (h1 : p 1) (h2 : p 2) (h3 : p 3) (h4 : p 4) (h5 : p 5) (h6 : p 6) : ∀ j, j < 7 → p j
  | 0, _ => h0 | 1, _ => h1 | 2, _ => h2 | 3, _ => h3 | 4, _ => h4 | 5, _ => h5 | 6, _ => h6
  | _ + 7, h => by omega
theorem row7_at (f : Nat → Int) : ∀ j, j < 7 → (row7 f)[j]? = some (.int .i64 (f j)) := sevens rfl rfl rfl rfl rfl rfl rfl
theorem row7_set (f : Nat → Int) (x : Int) : ∀ j, j < 7 → (row7 f).setIfInBounds j (.int .i64 x) = row7 (updF f j x) := sevens rfl rfl rfl rfl rfl rfl rfl
def part7 (vs : List Bs) (j : Nat) : Nat → Int := fun k => if k < j then pNum (vs.getD k []) else 0
theorem part7_step (vs : List Bs) (j : Nat) : updF (part7 vs j) j (pNum (vs.getD j [])) = part7 vs (j + 1) := by
  funext k
  unfold updF part7
  by_cases e : k = j
  · subst e; simp
  · have : k < j + 1 ↔ k < j := by omega
    simp [e, this]
theorem seven_of (vs : List Bs) (h : vs.length = 7) : hdOf (vs.map pNum) = ⟨listK (part7 vs 7), part7 vs 7 4, part7 vs 7 5, part7 vs 7 6⟩ := by
  match vs, h with
  | [a, b, c, d, x, y, z], _ => rfl
theorem splitN_parts (c : UInt8) (k : Nat) : ∀ s : Bs, ∀ p ∈ splitN c k s, p.length ≤ s.length := by
  induction k with
  | zero => intro s p hp; simp [splitN] at hp; rw [hp]; exact Nat.le_refl _
  | succ k ih =>
    intro s p hp
    rw [splitN] at hp
    split at hp
    · simp at hp; rw [hp]; exact Nat.le_refl _
    · rcases List.mem_cons.1 hp with rfl | hp
      · simp; omega
      · have := ih _ p hp; simp at this; omega
theorem iclone7 (f : Nat → Int) (g : Nat) (wx : World) (h : StB wx g 50 (row7 f)) :
    Calls Tryz.prog 28 #[.slice (some ⟨g, 0, none⟩) 4 7] wx fun e w' => ∃ u, e = .returned u ∧ Own w' wx.heap.size u (listK f) ∧ Below wx.heap.size wx w' :=
  iclone_any g 0 4 7 (listK f) wx rfl (by omega) (fun j hj => by
    rw [Nat.zero_add, h.cell j (row7_at f j (by omega))]
    exact four (p := fun j => some (Value.int .i64 (f j)) = some (Value.int .i64 ((listK f).getD j 0))) rfl rfl rfl rfl j hj)

set_option maxRecDepth 20000 in
set_option maxHeartbeats 4000000 in
theorem ireadH_any (s : Bs) (w : World) (hl : s.length ≤ 1048576) (ht : TabE w) :
    Calls Tryz.prog 8 #[S s] w fun e w' => ∃ u, e = .returned (.tuple #[HV u (readD s), .bool (readY s)]) ∧ Own w' w.heap.size u (readD s).ks ∧ Below w.heap.size w w' := by
  have R0 : StB (w.alloc (.cells zeH 26)) w.heap.size 26 zeH := StB.new _ _ _
  have B0 : Below w.heap.size w (w.alloc (.cells zeH 26)) := (Below.refl _ _).alloc (Nat.le_refl _) _
  have c1 := fun wx => isplit_any 8 (by omega) (by omega) s wx hl
  have hvs : splitN 32 (min 8 (s.length + 1) - 1) s = words7 s := rfl
  simp only [hvs] at c1
  have HPT : Hid (∀ p ∈ words7 s, p.length ≤ 1048576) := fun p hp => by have := splitN_parts 32 _ s p hp; omega
  have E1 : Hid ((words7 s).length ≠ 7 → readH s = none) := words7_len
  have E3 : Hid ((words7 s).length = 7 → ∀ j, j < 7 → pOk ((words7 s).getD j []) = false → readH s = none) := fun h j hj hp => words7_bad h hj hp
  have E4 : Hid ((words7 s).length = 7 → (hdOf ((words7 s).map pNum)).showT ≠ s → readH s = none) := seven_no
  have E5 : Hid ((words7 s).length = 7 → (hdOf ((words7 s).map pNum)).showT = s → readH s = some (hdOf ((words7 s).map pNum))) := seven_yes
  obtain ⟨ws, hws⟩ : ∃ ws, ws = words7 s := ⟨_, rfl⟩
  rw [← hws] at E1 E3 E4 E5 HPT
  simp only [← hws] at c1
  have HT : Hid (TabE w) := ht
  clear hws hvs hl ht
  have RZ : Hid (StB (w.alloc (.cells zeH 26)) w.heap.size 26 zeH) := R0
  have BZ : Hid (Below w.heap.size w (w.alloc (.cells zeH 26))) := B0
  clear R0 B0
  unfold S at *
  go_enter Tryz.func8, Tryz.ntmps8
  go_wp2_with fail
  refine (c1 _).mono ?_
  rintro e wS ⟨u, rfl, o1, b1⟩
  clear c1
  have RS : Hid (StB wS w.heap.size 26 zeH) := RZ.out.below b1
  have BS : Hid (Below w.heap.size w wS) := BZ.out.trans (b1.mono BZ.out.size)
  have HSS : Hid (w.heap.size < wS.heap.size) := RS.out.lt
  clear b1 RZ BZ
  obtain ⟨ao, cap, rfl, hcap, -, hcells⟩ := o1
  by_cases h7 : ws.length = 7
  · have H3 : Hid (∀ j, j < 7 → pOk (ws.getD j []) = false → readH s = none) := E3.out h7
    have H4 : Hid ((hdOf (ws.map pNum)).showT ≠ s → readD s = Hd.zero ∧ readY s = false) := fun h => readH_not (E4.out h7 h)
    have H5 : Hid ((hdOf (ws.map pNum)).showT = s → readD s = hdOf (ws.map pNum) ∧ readY s = true) := fun h => readH_yes (E5.out h7 h)
    obtain ⟨vb, vo, rfl, hcell0⟩ : ∃ b off, ao = some ⟨b, off, none⟩ ∧ ∀ j, j < ws.length → wS.cell? ⟨b, off + j, none⟩ = some (S (ws.getD j [])) := by
      rcases hcells with e | ⟨b, off, e, h⟩
      · rw [e] at h7; simp at h7
      · exact ⟨b, off, e, h⟩
    have HC : Hid (∀ j, j < 7 → wS.cell? ⟨vb, vo + j, none⟩ = some (.string ⟨(ws.getD j []).toArray⟩)) := fun j hj => hcell0 j (by omega)
    have HV7 : Hid (ws.length = 7) := h7
    rw [seven_of ws h7] at H4 H5
    rw [h7] at hcap ⊢
    clear E1 E3 E4 E5 hcells hcell0 h7
    go_wp2
    go_loopw [20] (fun i wr => ∃ j : Nat, i = .int .i64 j ∧ (j : Int) ≤ 7 ∧ Hid (StB wr wS.heap.size 50 (row7 (part7 ws j)) ∧ Below wS.heap.size wS wr)) (fun i _ => 7 - (intOf i).toNat)
    case atStart => exact ⟨0, rfl, by omega, StB.new wS _ (row7 (part7 ws 0)), (Below.refl _ _).alloc (Nat.le_refl _) _⟩
    case round =>
      obtain ⟨j, rfl, hj, HR⟩ := hrel
      by_cases hlt : (j : Int) < 7
      · have hjv : Hid (j < ws.length) := by have := HV7.out; rw [Hid]; omega
        have hcw := HC.out j (by omega)
        have hcell : wr.cell? ⟨vb, vo + j, none⟩ = some (.string ⟨(ws.getD j []).toArray⟩) := by
          rw [HR.out.2.cell (p := ⟨vb, vo + j, none⟩) (World.block_lt_of_cell? wS _ hcw)]
          exact hcw
        have hpl : (ws.getD j []).length ≤ 1048576 := HPT.out (ws.getD j []) (by have := hjv.out; simp [this])
        have E3j : Hid (pOk (ws.getD j []) = false → readH s = none) := H3.out j (by omega)
        have HN : Hid (updF (part7 ws j) j (pNum (ws.getD j [])) = part7 ws (j + 1)) := part7_step ws j
        obtain ⟨p, hp⟩ : ∃ p, p = ws.getD j [] := ⟨_, rfl⟩
        rw [← hp] at hcell hpl E3j HN
        have B1 : Hid (Below w.heap.size w wr) := BS.out.trans (HR.out.2.mono BS.out.size)
        clear hp hcw
        cases hb : pOk p with
        | false =>
          have HE : Hid (readD s = Hd.zero ∧ readY s = false) := readH_not (E3j.out hb)
          have c2 := fun wx h => iparse_no p wx hpl hb h
          unfold S at c2
          clear hb E3j HN
          go_wp2_with fail
          refine (c2 _ (HT.out.below B1.out)).mono ?_
          rintro e w2 ⟨n, N, rfl, b2⟩
          have R2 : Hid (StB w2 w.heap.size 26 zeH) := (RS.out.below HR.out.2).below b2
          have B2 : Hid (Below w.heap.size w w2) := B1.out.trans (b2.mono B1.out.size)
          clear b2 c2 hcell
          go_wp2_with (refine wpList_putS Tryz.isH rfl _ _ rfl w.heap.size (hdA (.slice none 0 0) Hd.zero) zeH rfl rfl rfl rfl (hdA_one _ rfl) R2.out ?_; intro w3 R3 G3)
          refine bodyPost_ret (results_S2 Tryz.isH rfl _ _ w.heap.size _ _ rfl rfl rfl R3) rfl ?_
          rw [HE.out.1, HE.out.2]
          exact ⟨.slice none 0 0, rfl, Own.nil _ _, B2.out.grown G3 B2.out.size (fun k e => by cases e; exact Nat.le_refl _)⟩
        | true =>
          have c2 := fun wx => iparse_yes p wx hpl hb
          obtain ⟨x, hx⟩ : ∃ x, x = pNum p := ⟨_, rfl⟩
          simp only [← hx] at c2
          rw [← hx] at HN
          unfold S at c2
          clear hb E3j hx
          go_wp2_with fail
          refine (c2 _).mono ?_
          rintro e w2 ⟨rfl, b2⟩
          have R2 : Hid (StB w2 wS.heap.size 50 (row7 (part7 ws j)) ∧ Below wS.heap.size wS w2) := ⟨HR.out.1.below b2, HR.out.2.trans (b2.mono HR.out.2.size)⟩
          clear b2 c2 hcell HR
          have k0 := R2.out.1.cell j (row7_at _ j (by omega))
          have f0 := R2.out.1.frozen j
          have HS : Hid (StB (w2.setCell ⟨wS.heap.size, j, none⟩ (.int .i64 x)) wS.heap.size 50 (row7 (part7 ws (j + 1))) ∧ Below wS.heap.size wS (w2.setCell ⟨wS.heap.size, j, none⟩ (.int .i64 x))) := ⟨R2.out.1.put j _ (by rw [row7_set _ _ j (by omega), HN.out]), R2.out.2.setCell (p := ⟨wS.heap.size, j, none⟩) (Nat.le_refl _) _⟩
          clear R2
          go_wp2
          go_roundw
          case rel => exact ⟨j + 1, by go_num, by omega, HS.out⟩
          case measure => simp [intOf]; omega
      · obtain rfl : j = 7 := by omega
        obtain ⟨f, hf⟩ : ∃ f, f = part7 ws 7 := ⟨_, rfl⟩
        rw [← hf] at H4 H5 HR
        obtain ⟨og, hog⟩ : ∃ og, og = wS.heap.size := ⟨_, rfl⟩
        have HX : Hid (StB wr og 50 (row7 f)) := by rw [hog]; exact HR.out.1
        have R1 : Hid (StB wr w.heap.size 26 zeH) := RS.out.below HR.out.2
        have B1 : Hid (Below w.heap.size w wr) := BS.out.trans (HR.out.2.mono BS.out.size)
        have C3 : Hid (∀ wx, StB wx og 50 (row7 f) → _) := fun wx h => iclone7 f og wx h
        obtain ⟨y4, hy4⟩ : ∃ y4, y4 = f 4 := ⟨_, rfl⟩
        obtain ⟨y5, hy5⟩ : ∃ y5, y5 = f 5 := ⟨_, rfl⟩
        obtain ⟨y6, hy6⟩ : ∃ y6, y6 = f 6 := ⟨_, rfl⟩
        have k4 : wr.cell? ⟨og, 4, none⟩ = some (.int .i64 y4) := by rw [hy4]; exact HX.out.cell 4 rfl
        have k5 : wr.cell? ⟨og, 5, none⟩ = some (.int .i64 y5) := by rw [hy5]; exact HX.out.cell 5 rfl
        have k6 : wr.cell? ⟨og, 6, none⟩ = some (.int .i64 y6) := by rw [hy6]; exact HX.out.cell 6 rfl
        rw [← hy4, ← hy5, ← hy6] at H4 H5
        obtain ⟨ks, hks⟩ : ∃ ks, ks = listK f := ⟨_, rfl⟩
        have e4 : Hid (ks.length = 4) := by rw [hks]; rfl
        rw [← hks] at H4 H5 C3
        rw [← hog]
        have HO : Hid (og < wr.heap.size) := HX.out.lt
        have hne : og ≠ wr.heap.size := by have := HO.out; omega
        clear hy4 hy5 hy6 HR H3 HC HPT HV7 hlt hj hks hf hog
        go_upto_region 13 with fail
        have XD : Hid (StB wr.drew og 50 (row7 f)) := HX.out
        have XA : Hid (StB (wr.drew.alloc (.cells zeH 26)) og 50 (row7 f)) := XD.out.alloc _
        have d4 : wr.drew.cell? ⟨og, 4, none⟩ = some (.int .i64 y4) := k4
        have d5 : wr.drew.cell? ⟨og, 5, none⟩ = some (.int .i64 y5) := k5
        have d6 : wr.drew.cell? ⟨og, 6, none⟩ = some (.int .i64 y6) := k6
        have q4 : (wr.drew.alloc (.cells zeH 26)).cell? ⟨og, 4, none⟩ = some (.int .i64 y4) := cell_later d4
        have q5 : (wr.drew.alloc (.cells zeH 26)).cell? ⟨og, 5, none⟩ = some (.int .i64 y5) := cell_later d5
        have q6 : (wr.drew.alloc (.cells zeH 26)).cell? ⟨og, 6, none⟩ = some (.int .i64 y6) := cell_later d6
        have HW : Hid (wr.heap.size + 1 ≤ (wr.drew.alloc (.cells zeH 26)).heap.size) := by rw [Hid, World.size_alloc]; exact Nat.le_refl _
        go_cut [10] (fun t wx => ∃ G ao cp, t = .pointer (some ⟨G, 0, none⟩) ∧ Hid (StB wx G 26 (hdA (.slice ao 4 cp) ⟨ks, y4, y5, y6⟩) ∧ Own wx wr.heap.size (.slice ao 4 cp) ks ∧ StB wx w.heap.size 26 zeH ∧ Below w.heap.size w wx ∧ w.heap.size < G))
        case first =>
          go_region_held3 (fun w' => w'.cell? ⟨og, 4, none⟩ = some (.int .i64 y4) ∧ w'.cell? ⟨og, 5, none⟩ = some (.int .i64 y5) ∧ w'.cell? ⟨og, 6, none⟩ = some (.int .i64 y6)) (refine ⟨?_, ?_, ?_⟩ <;> first | with_reducible assumption | (with_reducible refine cell_later ?_; with_reducible assumption) | (with_reducible refine cell_put4' hne ?_; with_reducible assumption) | exact q4 | exact q5 | exact q6)
            (first
              | (go_at_call 28; refine (C3.out _ (by first | with_reducible exact XD.out | exact XA.out)).mono ?_; rintro e w2 ⟨u, rfl, o2, b2⟩; obtain ⟨ao, cp, rfl⟩ := reads_form o2.reads; rw [e4.out] at o2 ⊢; first
                  | (have b3 : Below wr.drew.heap.size wr.drew w2 := (by with_reducible exact b2); clear b3; have O2 : Hid (Own w2 wr.heap.size (.slice ao 4 cp) ks) := o2; have N2 : Hid (Below wr.drew.heap.size wr.drew w2) := b2; have S2 : Hid (wr.heap.size ≤ w2.heap.size) := b2.size; clear o2 b2; have e4' : w2.cell? ⟨og, 4, none⟩ = some (.int .i64 y4) := (N2.out.cell (World.block_lt_of_cell? _ _ d4)).trans d4; have e5' : w2.cell? ⟨og, 5, none⟩ = some (.int .i64 y5) := (N2.out.cell (World.block_lt_of_cell? _ _ d5)).trans d5; have e6' : w2.cell? ⟨og, 6, none⟩ = some (.int .i64 y6) := (N2.out.cell (World.block_lt_of_cell? _ _ d6)).trans d6)
                  | (have O2 : Hid (Own w2 wr.heap.size (.slice ao 4 cp) ks) := o2.mono (Nat.le_of_succ_le HW.out); have N2 : Hid (Below (wr.drew.alloc (.cells zeH 26)).heap.size (wr.drew.alloc (.cells zeH 26)) w2) := b2; have S2 : Hid (wr.heap.size ≤ w2.heap.size) := Nat.le_trans (Nat.le_of_succ_le HW.out) b2.size; have PB : Hid (StB w2 wr.heap.size 26 zeH) := StB.below (StB.new wr.drew 26 zeH) b2; have QB : Hid (Own w2 (wr.heap.size + 1) (.slice ao 4 cp) ks) := o2.mono HW.out; clear o2 b2; have z0 : w2.cell? ⟨wr.heap.size, 0, none⟩ = some (.slice none 0 0) := PB.out.cell 0 rfl; have fz0 := PB.out.frozen 0; have z1 : w2.cell? ⟨wr.heap.size, 1, none⟩ = some (.int .i64 0) := PB.out.cell 1 rfl; have fz1 := PB.out.frozen 1; have z2 : w2.cell? ⟨wr.heap.size, 2, none⟩ = some (.int .i64 0) := PB.out.cell 2 rfl; have fz2 := PB.out.frozen 2; have z3 : w2.cell? ⟨wr.heap.size, 3, none⟩ = some (.int .i64 0) := PB.out.cell 3 rfl; have fz3 := PB.out.frozen 3; have e4' : w2.cell? ⟨og, 4, none⟩ = some (.int .i64 y4) := (N2.out.cell (World.block_lt_of_cell? _ _ q4)).trans q4; have e5' : w2.cell? ⟨og, 5, none⟩ = some (.int .i64 y5) := (N2.out.cell (World.block_lt_of_cell? _ _ q5)).trans q5; have e6' : w2.cell? ⟨og, 6, none⟩ = some (.int .i64 y6) := (N2.out.cell (World.block_lt_of_cell? _ _ q6)).trans q6)))
          all_goals (go_wp2_with fail; go_meet)
          · have b2 : Below wr.heap.size wr w2 := (Below.refl _ _).drew.trans N2.out
            exact ⟨w2.heap.size, ao, cp, rfl, StB.new _ _ _, O2.out.alloc _, (R1.out.below b2).alloc _, (B1.out.trans (b2.mono B1.out.size)).alloc (Nat.le_trans B1.out.size S2.out) _, Nat.lt_of_lt_of_le R1.out.lt S2.out⟩
          · have b2 : Below wr.heap.size wr w2 := ((Below.refl wr.heap.size wr).drew.alloc (Nat.le_refl _) _).trans (N2.out.mono (Nat.le_of_succ_le HW.out))
            have SE := (((PB.out.put 0 (.slice ao 4 cp) rfl).put 1 (.int .i64 y4) rfl).put 2 (.int .i64 y5) rfl).put 3 (.int .i64 y6) (ds := hdA (.slice ao 4 cp) ⟨ks, y4, y5, y6⟩) rfl
            have GE := (((grownSet w2 wr.heap.size 0 (.slice ao 4 cp)).trans (grownSet _ wr.heap.size 1 (.int .i64 y4))).trans (grownSet _ wr.heap.size 2 (.int .i64 y5))).trans (grownSet _ wr.heap.size 3 (.int .i64 y6))
            have l1 := R1.out.lt
            exact ⟨wr.heap.size, ao, cp, rfl, SE, (QB.out.keptLt GE (Nat.lt_succ_self _)).mono (Nat.le_succ _), (R1.out.below b2).kept GE (by intro c; have := Option.some.inj c; omega), (B1.out.trans (b2.mono B1.out.size)).grown GE (Nat.le_trans B1.out.size S2.out) (fun k c => by cases c; exact B1.out.size), l1⟩
        case rest =>
          obtain ⟨G, ao, cp, rfl, HG⟩ := hcut
          have c4 := ishowH_any (.slice ao 4 cp) ⟨ks, y4, y5, y6⟩ wc HG.out.2.1.reads (by rw [e4.out]; omega) (HT.out.below HG.out.2.2.2.1).tab
          obtain ⟨hd, hhd⟩ : ∃ hd : Hd, hd = ⟨ks, y4, y5, y6⟩ := ⟨_, rfl⟩
          have HK : Hid (hd.ks = ks) := by rw [Hid, hhd]
          rw [← hhd] at c4 HG H4 H5
          rw [← HK.out] at HG
          have HS1 : Hid (w.heap.size ≤ wr.heap.size) := B1.out.size
          have HLG : Hid (w.heap.size < wr.heap.size) := R1.out.lt
          unfold HV S at c4
          obtain ⟨d, hd'⟩ : ∃ d, d = hd.showT := ⟨_, rfl⟩
          rw [← hd'] at c4 H4 H5
          clear hhd hd' C3 k4 k5 k6 R1 B1 XD XA d4 d5 d6 q4 q5 q6 e4 HX HO HW
          by_cases hs : d = s
          · subst hs
            have HE : Hid (readD d = hd ∧ readY d = true) := H5.out rfl
            have e_d : (d == d) = true := by simp
            clear H4 H5
            go_wp2_with (first | (refine wpList_getS Tryz.isH rfl _ rfl G rfl (hdA (.slice ao 4 cp) hd) rfl HG.out.1 ?_))
            refine c4.mono ?_
            rintro e w5 ⟨rfl, b5⟩
            have P5 : Hid (StB w5 G 26 (hdA (.slice ao 4 cp) hd) ∧ Own w5 wr.heap.size (.slice ao 4 cp) hd.ks ∧ StB w5 w.heap.size 26 zeH ∧ Below w.heap.size w w5) := ⟨HG.out.1.below b5, HG.out.2.1.below b5, HG.out.2.2.1.below b5, HG.out.2.2.2.1.trans (b5.mono HG.out.2.2.2.1.size)⟩
            clear b5 c4 HG
            go_upto_region 16 with fail
            go_wp2_with (first | (refine wpList_getS Tryz.isH rfl _ rfl G rfl (hdA (.slice ao 4 cp) hd) rfl P5.out.1 ?_) | (refine wpList_putS Tryz.isH rfl _ _ rfl w.heap.size (hdA (.slice ao 4 cp) hd) zeH rfl rfl rfl rfl (hdA_one _ rfl) P5.out.2.2.1 ?_; intro w6 R6 G6))
            refine bodyPost_ret (results_S2 Tryz.isH rfl _ _ w.heap.size _ _ rfl rfl rfl R6) rfl ?_
            rw [HE.out.1, HE.out.2]
            exact ⟨.slice ao 4 cp, rfl, (P5.out.2.1.keptLt G6 HLG.out).mono HS1.out, P5.out.2.2.2.grown G6 P5.out.2.2.2.size (fun k e => by cases e; exact Nat.le_refl _)⟩
          · have HE : Hid (readD s = Hd.zero ∧ readY s = false) := H4.out hs
            have e_d : (d == s) = false := by simpa using hs
            clear H4 H5 hs
            go_wp2_with (first | (refine wpList_getS Tryz.isH rfl _ rfl G rfl (hdA (.slice ao 4 cp) hd) rfl HG.out.1 ?_))
            refine c4.mono ?_
            rintro e w5 ⟨rfl, b5⟩
            have P5 : Hid (StB w5 w.heap.size 26 zeH ∧ Below w.heap.size w w5) := ⟨HG.out.2.2.1.below b5, HG.out.2.2.2.1.trans (b5.mono HG.out.2.2.2.1.size)⟩
            clear b5 c4 HG
            go_upto_region 15 with fail
            go_wp2_with (refine wpList_putS Tryz.isH rfl _ _ rfl w.heap.size (hdA (.slice none 0 0) Hd.zero) zeH rfl rfl rfl rfl (hdA_one _ rfl) P5.out.1 ?_; intro w6 R6 G6)
            refine bodyPost_ret (results_S2 Tryz.isH rfl _ _ w.heap.size _ _ rfl rfl rfl R6) rfl ?_
            rw [HE.out.1, HE.out.2]
            exact ⟨.slice none 0 0, rfl, Own.nil _ _, P5.out.2.grown G6 P5.out.2.size (fun k e => by cases e; exact Nat.le_refl _)⟩
  · have HE : Hid (readD s = Hd.zero ∧ readY s = false) := readH_not (E1.out h7)
    have hn7 : ((ws.length : Int) != 7) = true := by simp; omega
    clear hcells E1 E3 E4 E5 HPT h7
    go_upto_region 3 with fail
    go_wp2_with (refine wpList_putS Tryz.isH rfl _ _ rfl w.heap.size (hdA (.slice none 0 0) Hd.zero) zeH rfl rfl rfl rfl (hdA_one _ rfl) RS.out ?_; intro w2 R2 G2)
    refine bodyPost_ret (results_S2 Tryz.isH rfl _ _ w.heap.size _ _ rfl rfl rfl R2) rfl ?_
    rw [HE.out.1, HE.out.2]
    exact ⟨.slice none 0 0, rfl, Own.nil _ _, BS.out.grown G2 BS.out.size (fun k e => by cases e; exact Nat.le_refl _)⟩
end Go.Proofs.YtifffiekibdgnaaGreatDoor
