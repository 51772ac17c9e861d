/- At every list of bytes the law FnFrames returns true: what is framed is read again, and cut, what was whole ahead of it; and the program answers as the model. -/
import Derived.Test.YtphmjjmgpnlagaaDoorRows
import Derived.WalkKit
import Derived.ProofKit
import Derived.OpenShut
import Derived.ShutString
import Derived.ChangeOld
import Derived.Below
import Derived.Test.YtphmjjmgpnlagaaDoorIFrames
import Derived.Test.YtphmjjmgpnlagaaDoorTextSta
import Derived.Test.YtphmjjmgpnlagaaDoorFrameLaws2
import Derived.Test.YtphmjjmgpnlagaaDoorBend
import Derived.Test.YtphmjjmgpnlagaaDoorLaid
import Derived.Test.YtphmjjmgpnlagaaDoorCards
import Derived.Test.YtphmjjmgpnlagaaDoorTie
import Derived.SevenTiedAt
namespace Go.Proofs.YtphmjjmgpnlagaaDoor.fnFrames
open Go.ChangeShapes Go.WideShapes Go.ChangeAt Go.RowKit
open Go.ChangeMaps (open_string shut_string)
set_option linter.unusedVariables false

theorem own : ownKnob Tryd.prog.godebug = none := by kernel_rfl
theorem laidOut : laidOutB Tryd.prog = true := by kernel_rfl

def IsRow (k : IntKind) (w : World) (a : Option Addr) (len cap : Nat) (zs : List Int) : Prop :=
  (a = none ∧ len = 0 ∧ cap = 0 ∧ zs = []) ∨
  ∃ x, a = some x ∧ len ≤ cap ∧ cap ≤ maxLen ∧ zs.length = cap ∧ (∀ i, i < zs.length → w.cell? (x.add i) = some (.int k (zs.getD i 0))) ∧ ∀ n ∈ zs, (Lit.int k n).wf = true

set_option maxRecDepth 20000 in
set_option maxHeartbeats 2000000 in
theorem walk (a0 : Option Addr) (len0 cap0 : Nat) (z0 : List Int) (w : World) (w0 : IsRow .u8 w a0 len0 cap0 z0) (hT : Tab w) :
    Calls Tryd.prog 3 #[.slice a0 len0 cap0] w fun e w' => e = .returned (.bool true) ∧ Below w.heap.size w w' := by
  have HP : Hid (Tab w) := hT
  clear hT
  by_cases hbig : (4096 : Int) < (len0 : Int)
  · go_enter Tryd.func3, Tryd.ntmps3
    go_wp2_with (go_at_call 7; refine (big_any _ _ _ _).mono ?_; rintro e w' ⟨rfl, hw'⟩; subst w')
    go_ret
    exact ⟨rfl, Below.refl _ _⟩
  · have HC : Hid (CodeOk w w.heap.size (.slice a0 len0 cap0)) := codeOk_row w0 (by omega)
    clear w0
    have HS : Hid (Sta w w []) := Sta.start w
    go_enter Tryd.func3, Tryd.ntmps3
    go_wp2_with fail
    refine (big_any _ _ _ _).mono ?_
    rintro e w' ⟨rfl, hw'⟩; subst w'
    go_wp2_with fail
    refine (drawFrames_any w.heap.size _ _ (HC.out.below HS.out.below) HS.out.below.size).mono ?_
    rintro e w1 ⟨s, rfl, hs, b1⟩
    replace HS : Hid (Sta w w1 []) := HS.out.next b1
    clear b1
    have hsb : s.length ≤ 1048576 := by omega
    have ci := fun wx h => iframes_any s wx hsb h
    have cs := fun wx => sframes_any s wx hsb
    have cl := fun wx h => ilast_any s wx hsb h
    have csl := fun wx => slast_any s wx hsb
    obtain ⟨xs, hx⟩ : ∃ xs, xs = (framesB s).1 := ⟨_, rfl⟩
    obtain ⟨n, hn⟩ : ∃ n : Nat, n = (framesB s).2 := ⟨_, rfl⟩
    simp only [← hx, ← hn] at ci cs
    have HX : Hid (xs = (framesB s).1 ∧ n = (framesB s).2) := ⟨hx, hn⟩
    have hxl : xs.length ≤ 2000 := by rw [hx]; exact (framesB_sound s).2.2.2
    have hnl : n ≤ s.length := by rw [hn]; exact framesB_le s
    have hhas : hasB s = decide ((0 : Int) < (xs.length : Int)) := by rw [hx]; unfold hasB; cases (framesB s).1 <;> simp
    have HT : Hid (lastB s = xs.getLastD []) := by rw [hx]; rfl
    have HA : Hid (s.take n = cat xs ∧ n = (cat xs).length ∧ ∀ t ∈ xs, plainB t = true) := by rw [hx, hn]; obtain ⟨h1, h2, h3, _⟩ := framesB_sound s; exact ⟨h2, h3, h1⟩
    obtain ⟨la, hla⟩ : ∃ la, la = lastB s := ⟨_, rfl⟩
    rw [hhas, ← hla] at cl csl
    replace HT : Hid (la = xs.getLastD []) := hla.trans HT.out
    clear hx hn hhas hla
    unfold S at cl csl ci cs ⊢
    go_wp2_with fail
    refine (ci w1 (HP.out.below HS.out.below)).mono ?_
    rintro e w2 ⟨v1, rfl, o2, b2⟩
    obtain ⟨vo, vc, hv1, hvl, ⟨hvm, -⟩, -⟩ := o2.reads
    subst hv1
    unfold maxLen at hvm
    replace HS : Hid (Sta w w2 [Lss (.slice vo xs.length vc) xs]) := HS.out.texts o2 b2
    clear o2 b2
    go_wp2_with fail
    refine (drawFramed_any w.heap.size _ _ (HC.out.below HS.out.below) HS.out.below.size).mono ?_
    rintro e w3 ⟨t, rfl, ht, b3⟩
    replace HS : Hid (Sta w w3 [Lss (.slice vo xs.length vc) xs]) := HS.out.next b3
    clear b3
    have cf := fun wx h => iframed_any t wx (by omega) h
    have csf := fun wx => sframed_any t wx (by omega)
    have cc := fun wx => icheck_any t wx (by omega)
    have csc := fun wx => scheck_any t wx (by omega)
    obtain ⟨ff, hff⟩ : ∃ ff, ff = framedS t := ⟨_, rfl⟩
    simp only [← hff] at cf csf
    have HF : Hid (ff = framedS t) := hff
    have hffl : ff.length ≤ 400 := by rw [hff]; exact framedS_len t ht
    clear hff
    unfold S at cf csf cc csc ⊢
    go_wp2_with fail
    refine (cf w3 (HP.out.below HS.out.below)).mono ?_
    rintro e w4 ⟨rfl, b4⟩
    replace HS : Hid (Sta w w4 [Lss (.slice vo xs.length vc) xs]) := HS.out.next b4
    clear b4
    go_wp2_with fail
    refine (cl w4 (HP.out.below HS.out.below)).mono ?_
    rintro e w5 ⟨rfl, b5⟩
    replace HS : Hid (Sta w w5 [Lss (.slice vo xs.length vc) xs]) := HS.out.next b5
    clear b5
    go_wp2_with fail
    refine (cs w5).mono ?_
    rintro e w6 ⟨v2, rfl, o6, b6⟩
    replace HS : Hid (Sta w w6 [Lss v2 xs, Lss (.slice vo xs.length vc) xs]) := HS.out.texts o6 b6
    clear o6 b6
    go_wp2_with fail
    refine (likeS_any _ v2 xs xs _ (HS.out.readsS 1 rfl) (HS.out.readsS 0 rfl) (by omega)).mono ?_
    rintro e w7 ⟨rfl, n7, hw7⟩
    have hq : decide (xs = xs) = true := by simp
    rw [hq]
    clear hq
    replace HS : Hid (Sta w w7 [Lss (.slice vo xs.length vc) xs]) := (HS.out.drew hw7).tail
    clear hw7
    go_wp2_with fail
    refine (csf w7).mono ?_
    rintro e w8 ⟨rfl, b8⟩
    replace HS : Hid (Sta w w8 [Lss (.slice vo xs.length vc) xs]) := HS.out.next b8
    clear b8
    go_wp2_with fail
    refine (cc w8).mono ?_
    rintro e w' ⟨rfl, hw'⟩; subst w'
    go_wp2_with fail
    refine (csc w8).mono ?_
    rintro e w' ⟨rfl, hw'⟩; subst w'
    go_wp2_with fail
    refine (csl w8).mono ?_
    rintro e w9 ⟨rfl, b9⟩
    replace HS : Hid (Sta w w9 [Lss (.slice vo xs.length vc) xs]) := HS.out.next b9
    clear b9 cl csl cc csc cs ci cf
    go_wp2_with fail
    go_loopw [14, 15] (fun z i wr => ∃ j : Nat, j ≤ xs.length ∧ i = .int .i64 j ∧ z = .string ⟨(cat (xs.take j)).toArray⟩ ∧ Hid (Sta w wr [Lss (.slice vo xs.length vc) xs])) (fun _ i _ => xs.length - (intOf i).toNat)
    case atStart => exact ⟨0, by omega, rfl, by simp [cat], HS⟩
    case round =>
      obtain ⟨j, hj, rfl, rfl, HR⟩ := hrel
      by_cases hlt : (j : Int) < (xs.length : Int)
      · have hj' : j < xs.length := by omega
        have hpl := HA.out.2.2 _ (getD_mem xs j hj')
        have hcat := cat_take xs j hj'
        have hlen := cat_take_len xs (j + 1)
        rw [← HA.out.2.1] at hlen
        obtain ⟨x, hx⟩ : ∃ x, x = xs.getD j [] := ⟨_, rfl⟩
        have hxl2 : x.length ≤ 300 := by rw [hx]; exact plainB_len hpl
        have c1 := fun wx => sframed_any x wx (by omega)
        rw [← hx] at hpl hcat
        rw [framedS_yes hpl] at c1
        obtain ⟨lo, lc, hle, hll, ⟨hlm, -⟩, hcells⟩ := HR.out.readsS 0 rfl
        cases hle
        have hce : ∃ b off, vo = some ⟨b, off, none⟩ ∧ wr.cell? ⟨b, off + j, none⟩ = some (.string ⟨x.toArray⟩) := by
          rcases hcells with e | ⟨b, off, e, h4⟩
          · rw [e] at hj'; simp at hj'
          · exact ⟨b, off, e, by rw [h4 j hj', ← hx]; rfl⟩
        obtain ⟨b, off, rfl, hc⟩ := hce
        have hap := app (cat (xs.take j)) (framed x)
        have hal : (cat (xs.take j) ++ framed x).length ≤ 5000 := by rw [← hcat]; omega
        rw [List.length_append] at hal
        obtain ⟨q, hq⟩ : ∃ q, q = cat (xs.take j) := ⟨_, rfl⟩
        obtain ⟨f, hf⟩ : ∃ f, f = framed x := ⟨_, rfl⟩
        rw [← hq, ← hf] at hap hal hcat
        rw [← hf] at c1
        have HQ : Hid (cat (xs.take (j + 1)) = q ++ f) := hcat
        unfold S at c1
        rw [← hq]
        clear hcells hpl hlen hx hcat hq hf
        go_wp2_with fail
        refine (c1 _).mono ?_
        rintro e w10 ⟨rfl, b10⟩
        replace HR : Hid (Sta w w10 [Lss (.slice (some ⟨b, off, none⟩) xs.length vc) xs]) := HR.out.next b10
        clear b10 c1
        go_wp2
        go_roundw
        case rel => exact ⟨j + 1, by omega, by go_num, by rw [HQ.out], HR⟩
        case measure => simp [intOf]; omega
      · have hj2 : j = xs.length := by omega
        subst hj2
        have hex := extract_cut s 0 n
        have e0 : cutB s 0 n = cat (xs.take xs.length) := by rw [List.take_length, ← HA.out.1]; simp [cutB]
        rw [e0] at hex
        clear e0
        have hcl : (cat (xs.take xs.length)).length = n := by rw [List.take_length]; exact HA.out.2.1.symm
        have hsz : (⟨s.toArray⟩ : ByteArray).size = s.length := rfl
        clear HS
        by_cases h0 : (0 : Int) < (xs.length : Int)
        · obtain ⟨front, hfr⟩ : ∃ front, front = xs.take (xs.length - 1) := ⟨_, rfl⟩
          have hsp : xs = front ++ [la] := by rw [hfr, HT.out]; exact last_split xs (by omega)
          have hlp : plainB la = true := HA.out.2.2 la (by rw [hsp]; simp)
          have hll : la.length ≤ 300 := plainB_len hlp
          have c3 := fun wx => sframed_any la wx (by omega)
          rw [framedS_yes hlp] at c3
          have hk1 := framed_pos la
          have hk2 : (framed la).length ≤ n := by rw [HA.out.2.1, hsp, cat_snoc, List.length_append]; omega
          have HCut : Hid (∀ p : Nat, p < (framed la).length → framesB (s.take (n - 1 - p)) = (front, n - (framed la).length)) := by
            intro p hp
            have := framesB_cut s front la p (by rw [← HX.out.1]; exact hsp) hp
            rw [← HX.out.2] at this
            exact this
          have hfl : front.length = xs.length - 1 := by rw [hfr]; simp
          have HFr : Hid (front = xs.take (xs.length - 1)) := hfr
          obtain ⟨fl, hf2⟩ : ∃ fl, fl = framed la := ⟨_, rfl⟩
          rw [← hf2] at c3 hk1 hk2 HCut
          unfold S at c3
          clear hf2 hfr hsp hlp
          go_wp2_with fail
          refine (c3 _).mono ?_
          rintro e w11 ⟨rfl, b11⟩
          replace HR : Hid (Sta w w11 [Lss (.slice vo xs.length vc) xs]) := HR.out.next b11
          clear b11 c3
          go_wp2_with fail
          refine (pick_any w.heap.size _ _ _ (HC.out.below HR.out.below) (by omega) (by omega)).mono ?_
          rintro e w12 ⟨r, rfl, hr0, hr1, q12, hw12⟩
          replace HR : Hid (Sta w w12 [Lss (.slice vo xs.length vc) xs]) := HR.out.drew hw12
          clear hw12
          obtain ⟨p, rfl⟩ : ∃ p : Nat, r = p := ⟨r.toNat, by omega⟩
          have hfb := HCut.out p (by omega)
          obtain ⟨m, hm⟩ : ∃ m : Nat, m = n - 1 - p := ⟨_, rfl⟩
          have hex2 := extract_cut s 0 m
          have e3 : cutB s 0 m = s.take m := by simp [cutB]
          have hm2 : (n : Int) - 1 - p = m := by omega
          rw [e3] at hex2
          rw [← hm] at hfb
          have c4 := fun wx h => iframes_any (s.take m) wx (by simp; omega) h
          simp only [hfb] at c4
          have hm3 : m ≤ s.length := by omega
          obtain ⟨sm, hsm⟩ : ∃ sm, sm = s.take m := ⟨_, rfl⟩
          rw [← hsm] at hex2 
          simp only [← hsm] at c4
          unfold S at c4
          obtain ⟨d, hd⟩ : ∃ d : Nat, d = n - fl.length := ⟨_, rfl⟩
          have hd2 : (n : Int) - fl.length = d := by omega
          simp only [← hd] at c4
          clear hm e3 hfb HCut hsm hd
          go_wp2_with fail
          refine (c4 _ (HP.out.below HR.out.below)).mono ?_
          rintro e w13 ⟨v4, rfl, o13, b13⟩
          replace HR : Hid (Sta w w13 [Lss v4 front, Lss (.slice vo xs.length vc) xs]) := HR.out.texts o13 b13
          clear o13 b13 c4
          go_wp2_with fail
          have hrt := (HR.out.readsS 1 rfl).take (xs.length - 1) (by omega)
          rw [← HFr.out] at hrt
          refine (likeS_any _ _ front front _ (HR.out.readsS 0 rfl) hrt (by omega)).mono ?_
          rintro e w14 ⟨rfl, n14, hw14⟩
          have hq : decide (front = front) = true := by simp
          rw [hq]
          clear hq hrt
          replace HR : Hid (Sta w w14 [Lss (.slice vo xs.length vc) xs]) := (HR.out.drew hw14).tail
          clear hw14
          by_cases hp : plainB t = true
          · have hff : ff = framed t := HF.out.trans (framedS_yes hp)
            have hie : ff.isEmpty = false := by
              rw [hff]
              have := framed_pos t
              cases h : framed t with
              | nil => rw [h] at this; simp at this
              | cons a l => rfl
            have c2 := fun wx h => iframes_any (ff ++ ff) wx (by simp; omega) h
            have e2 : framesB (ff ++ ff) = ([t, t], 2 * ff.length) := by rw [hff]; exact framesB_twice t hp
            simp only [e2, Int.natCast_mul, Int.cast_ofNat_Int] at c2
            have hap := app ff ff
            unfold S at c2
            clear e2 hff hp
            go_wp2_with fail
            refine (c2 _ (HP.out.below HR.out.below)).mono ?_
            rintro e w20 ⟨v3, rfl, o20, b20⟩
            have HB : Hid (Below w.heap.size w w20) := HR.out.below.trans (b20.mono HR.out.below.size)
            obtain ⟨zo, zc, hv3, hzl, ⟨hzm, -⟩, hzc⟩ := o20.reads
            change v3 = .slice zo 2 zc at hv3
            change 2 ≤ zc at hzl
            unfold maxLen at hzm
            subst hv3
            have hz2 : ∃ b off, zo = some ⟨b, off, none⟩ ∧ w20.cell? ⟨b, off, none⟩ = some (.string ⟨t.toArray⟩) ∧ w20.cell? ⟨b, off + 1, none⟩ = some (.string ⟨t.toArray⟩) := by
              rcases hzc with e | ⟨b, off, e, h4⟩
              · simp at e
              · exact ⟨b, off, e, h4 0 (by simp), h4 1 (by simp)⟩
            obtain ⟨zb, zf, rfl, hc0, hc1⟩ := hz2
            clear hzc o20 b20 c2
            go_wp2
            go_ret
            exact ⟨rfl, HB.out⟩
          · have hff : ff = [] := HF.out.trans (by simp [framedS, hp])
            subst hff
            go_wp2_with fail
            refine (csf _).mono ?_
            rintro e w20 ⟨rfl, b20⟩
            have HB : Hid (Below w.heap.size w w20) := HR.out.below.trans (b20.mono HR.out.below.size)
            clear b20
            go_wp2
            go_ret
            exact ⟨rfl, HB.out⟩
        · skip
          by_cases hp : plainB t = true
          · have hff : ff = framed t := HF.out.trans (framedS_yes hp)
            have hie : ff.isEmpty = false := by
              rw [hff]
              have := framed_pos t
              cases h : framed t with
              | nil => rw [h] at this; simp at this
              | cons a l => rfl
            have c2 := fun wx h => iframes_any (ff ++ ff) wx (by simp; omega) h
            have e2 : framesB (ff ++ ff) = ([t, t], 2 * ff.length) := by rw [hff]; exact framesB_twice t hp
            simp only [e2, Int.natCast_mul, Int.cast_ofNat_Int] at c2
            have hap := app ff ff
            unfold S at c2
            clear e2 hff hp
            go_wp2_with fail
            refine (c2 _ (HP.out.below HR.out.below)).mono ?_
            rintro e w20 ⟨v3, rfl, o20, b20⟩
            have HB : Hid (Below w.heap.size w w20) := HR.out.below.trans (b20.mono HR.out.below.size)
            obtain ⟨zo, zc, hv3, hzl, ⟨hzm, -⟩, hzc⟩ := o20.reads
            change v3 = .slice zo 2 zc at hv3
            change 2 ≤ zc at hzl
            unfold maxLen at hzm
            subst hv3
            have hz2 : ∃ b off, zo = some ⟨b, off, none⟩ ∧ w20.cell? ⟨b, off, none⟩ = some (.string ⟨t.toArray⟩) ∧ w20.cell? ⟨b, off + 1, none⟩ = some (.string ⟨t.toArray⟩) := by
              rcases hzc with e | ⟨b, off, e, h4⟩
              · simp at e
              · exact ⟨b, off, e, h4 0 (by simp), h4 1 (by simp)⟩
            obtain ⟨zb, zf, rfl, hc0, hc1⟩ := hz2
            clear hzc o20 b20 c2
            go_wp2
            go_ret
            exact ⟨rfl, HB.out⟩
          · have hff : ff = [] := HF.out.trans (by simp [framedS, hp])
            subst hff
            go_wp2_with fail
            refine (csf _).mono ?_
            rintro e w20 ⟨rfl, b20⟩
            have HB : Hid (Below w.heap.size w w20) := HR.out.below.trans (b20.mono HR.out.below.size)
            clear b20
            go_wp2
            go_ret
            exact ⟨rfl, HB.out⟩

set_option maxRecDepth 100000 in
theorem lifted (os : Os) (started : os.Started) (H : Type) (enc : TypeId × Value → H) :
    ReturnsInHanded {} Tryd.checked os 3 .any (fun w args => (Rows.fnFramesSpec.pre enc Tryd.prog Tryd.f3 [] false w args ∧ laidMetH Tryd.prog Rows.fnFramesRow.laid w) ∧ sizedMet enc Tryd.prog Tryd.f3 (OpenSpec.ofChange Rows.fnFramesSpec) false w args) (Rows.fnFramesSpec.post enc Tryd.prog Tryd.f3 false true false false) := by
  refine returnsInHanded_of_change_and (C := Tryd.checked) (X := fun w _ => laidMetH Tryd.prog Rows.fnFramesRow.laid w) (fun _ _ _ hh h => h.of_heap hh) own started (by kernel_rfl) Tryd.func3
    (ChangeSpec.witness_shaped (enc := enc) (C := Tryd.checked) (os := os) (X := fun w _ => laidMetH Tryd.prog Rows.fnFramesRow.laid w) false (World.doorLaid Tryd.prog 400 os) #[.slice none 0 0] 8 rfl (World.shaped_of_RefB (by kernel_rfl) (by kernel_rfl)) (by kernel_rfl) (by kernel_rfl) (by kernel_rfl) (door_met os _)) ?_
  intro W base args ds gs before hval0 hW hcnd _ hL _
  have hval : ∀ (j : Nat) t v, Tryd.f3.params[j]? = some t → args[j]? = some v → Value.okWide Tryd.prog W .any base t v := hval0
  have hW' := hW
  obtain ⟨p, q, hA0, hV, rfl, hfz, hnd⟩ := hW
  have hA : DataW.TrodAll enc Tryd.prog W 0 (fun _ => true) true Tryd.f3.params.toList args.toList ds p := hA0
  rw [Tryd.params3] at hA hval
  obtain ⟨v0, vs0, d0, ds0, p0, q0, hargs, rfl, rfl, h0, r0⟩ := trodAll_cons hA
  obtain ⟨rfl, rfl, rfl⟩ := trodAll_nil r0
  obtain rfl : args = #[v0] := by cases args; simp_all
  obtain ⟨rfl, rfl⟩ := trodVars_none hV
  obtain ⟨a0, len0, cap0, rfl⟩ := okWide_slice Tryd.underlying22 (hval 0 22 v0 rfl rfl)
  have k0 := h0
  have lt0 : ∀ x ∈ p0, x.block < W.heap.size := by obtain ⟨m, hm⟩ := k0; exact DataW.trod_lt m _ _ _ hm
  obtain ⟨z0, w0⟩ : ∃ zs, IsRow .u8 W a0 len0 cap0 zs := by
    obtain ⟨fuel, hf⟩ := h0
    rcases open_ints Tryd.underlying22 Tryd.underlying5 (by kernel_rfl) hf with ⟨hcs, _⟩ | ⟨x, l, c, zs, hcs, _, hl, hm, hz, _, hcell, hwz⟩
    · simp [Value.cells] at hcs
      obtain ⟨rfl, rfl, rfl⟩ := hcs
      exact ⟨[], .inl ⟨rfl, rfl, rfl, rfl⟩⟩
    · simp [Value.cells] at hcs
      obtain ⟨rfl, rfl, rfl⟩ := hcs
      exact ⟨zs, .inr ⟨_, rfl, hl, hm, by simpa using hz, hcell, hwz⟩⟩
  clear hA0 hval0
  refine (walk a0 len0 cap0 z0 W w0 (tab_of_laid hL)).mono fun e W' ⟨he, bel⟩ => ?_
  subst he
  exact ⟨_, rfl, _, _, _, [], _, [], hW', trodAll_mk1 (shut_bool Tryd.underlying4 _), (trodAll_cons_mk (Below.trod laidOut (by kernel_rfl) (of_decide_eq_true (by kernel_rfl)) k0 bel lt0) trodAll_mk0), rfl, bel.frame _, fun h => by cases h⟩

theorem over : Rows.fnFramesRow.holds Tryd.pinned (OpenSpec.ofChange Rows.fnFramesSpec) :=
  OpenClaim.holds_of_wide 3 Tryd.f3 rfl rfl rfl rfl rfl rfl rfl ⟨rfl, rfl, rfl, rfl, rfl⟩ rfl rfl rfl rfl rfl (by kernel_rfl) Tryd.func3 (by kernel_rfl)
    (of_decide_eq_true (by kernel_rfl)) (by unfold Func.isWrapper; first | (rw [if_pos (by decide +kernel)]; kernel_rfl) | (rw [if_neg (by decide +kernel)]; exact ⟨rfl, rfl⟩))
    (fun os started H enc _ => lifted os started H enc)

theorem proved : Rows.FnFramesSaid := over
end Go.Proofs.YtphmjjmgpnlagaaDoor.fnFrames
namespace Go.Proofs.YtphmjjmgpnlagaaDoor
open Go in
theorem fnFrames_holds : Rows.FnFramesCardSaid :=
  Claim7.holds_tied_plain_at .later [] [.data, .data, .data] true (true, "3a2c60c9ceecd31aee853b02944ebfd33f18ee07aa59bd80782cfd17fb127011") false
    fnFrames.proved (fun _ h => by cases h) (by kernel_rfl) (fun _ h => by cases h) fnFrames_row_tie rfl ⟨rfl, rfl⟩ (by kernel_rfl) rfl
    (fun f fn hf hfn => by
      obtain rfl : f = 3 := Option.some.inj ((show Tryd.prog.funcNamed Rows.fnFramesRow.func = some 3 by kernel_rfl).symm.trans hf) |>.symm
      obtain rfl : fn = Tryd.f3 := (Option.some.inj (Tryd.func3.symm.trans hfn)).symm
      exact ⟨by kernel_rfl, fun j t ht => by
        rw [Tryd.params3] at ht
        have hm : t ∈ [22] := by simpa using Array.mem_of_getElem? ht
        have hall : ([22].all fun u => !Tryd.prog.wantsStandIn u) = true := by kernel_rfl
        exact (show Tryd.prog.wantsStandIn t = false by simpa using List.all_eq_true.1 hall t hm)⟩)
    (by kernel_rfl)
end Go.Proofs.YtphmjjmgpnlagaaDoor
