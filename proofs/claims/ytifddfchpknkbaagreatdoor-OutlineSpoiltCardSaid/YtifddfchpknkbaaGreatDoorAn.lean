import Derived.Test.YtifddfchpknkbaaGreatDoorAs
import Derived.Test.YtifddfchpknkbaaGreatDoorZ
set_option linter.unusedVariables false
set_option linter.unusedSimpArgs false
namespace Go.Proofs.YtifddfchpknkbaaGreatDoor
open Go.RowKit

/-- How many figures may be seen, by the code's own answers; -1 if they cannot be. -/
def seenI (W H F L X Y nl nh xl xh y : Int) (fs : List Fig) (rs : List ByteArray) : Int := if whoE W H F L X Y nl nh xl xh y fs rs = 7 then 0 else if whoE W H F L X Y nl nh xl xh y fs rs = 0 ∧ (whoL W H F L X Y nl nh xl xh y fs rs).length = fs.length then (((whoL W H F L X Y nl nh xl xh y fs rs).filter fun z => z != 1).length : Int) else -1
theorem whoE_cases (W H F L X Y nl nh xl xh y : Int) (fs : List Fig) (rs : List ByteArray) : whoE W H F L X Y nl nh xl xh y fs rs = 7 ∨ whoE W H F L X Y nl nh xl xh y fs rs = 0 ∨ whoE W H F L X Y nl nh xl xh y fs rs = 2 := by
  unfold whoE
  split
  · split
    · exact .inl rfl
    · exact .inr (.inl rfl)
  · exact .inr (.inr rfl)
set_option maxRecDepth 100000 in
set_option maxHeartbeats 3200000 in
theorem lawSeen_any (W H F L X Y nl nh xl xh y : Int) (A : Option Addr) (n cap : Nat) (fs : List Fig) (SA : Option Addr) (sn scap : Nat) (rs : List ByteArray) (w : World) (hcap : n ≤ cap) (hcm : cap ≤ maxLen) (hf : ∀ f ∈ fs, f.ok w w.heap.size) (hr : Rd w w.heap.size 1 A n (fs.map Fig.val)) (hsn : sn ≤ scap) (hscm : scap ≤ maxLen) (hss : ∀ r ∈ rs, r.size ≤ maxLen) (hsr : Rd w w.heap.size 1 SA sn (rs.map Value.string)) :
    Calls Tryz.prog 65 #[.agg #[.int .i64 W, .int .i64 H, .int .i64 F, .int .i64 L, .int .i64 X, .int .i64 Y], .slice A n cap, .agg #[.int .i64 nl, .int .i64 nh, .int .i64 xl, .int .i64 xh, .int .i64 y], .slice SA sn scap] w fun e w' => e = .returned (.int .i64 (seenI W H F L X Y nl nh xl xh y fs rs)) ∧ Below w.heap.size w w' := by
  have hn : n ≤ maxLen := Nat.le_trans hcap hcm
  have hlen := hr.len
  have HI := Lib.hid (show seenI W H F L X Y nl nh xl xh y fs rs = if whoE W H F L X Y nl nh xl xh y fs rs = 7 then 0 else if whoE W H F L X Y nl nh xl xh y fs rs = 0 ∧ (whoL W H F L X Y nl nh xl xh y fs rs).length = n then (((whoL W H F L X Y nl nh xl xh y fs rs).filter fun z => z != 1).length : Int) else -1 by rw [← hlen]; rfl)
  obtain ⟨res, hres⟩ : ∃ res, res = seenI W H F L X Y nl nh xl xh y fs rs := ⟨_, rfl⟩
  rw [← hres] at HI ⊢
  clear hres hlen
  have hE := whoE_cases W H F L X Y nl nh xl xh y fs rs
  have hwho := fun wx h1 h2 h3 => Who_any W H F L X Y nl nh xl xh y A n cap fs SA sn scap rs wx hcap hcm h1 h2 hsn hscm hss h3
  obtain ⟨ee, he⟩ : ∃ ee, ee = whoE W H F L X Y nl nh xl xh y fs rs := ⟨_, rfl⟩
  obtain ⟨wl, hwl⟩ : ∃ wl, wl = whoL W H F L X Y nl nh xl xh y fs rs := ⟨_, rfl⟩
  rw [← he] at HI hE
  rw [← hwl] at HI
  simp only [← he, ← hwl] at hwho
  have HWHO := Lib.hid hwho
  clear he hwl hwho
  unfold maxLen at hn
  go_enter Tryz.func65, Tryz.ntmps65
  go_upto_region 1 with (fail)
  have hS := blk2_0 w (.cells #[.int .i64 nl, .int .i64 nh, .int .i64 xl, .int .i64 xh, .int .i64 y] 71) 23 #[.int .i64 W, .int .i64 H, .int .i64 F, .int .i64 L, .int .i64 X, .int .i64 Y]
  have hQ := blk2_1 w (.cells #[.int .i64 W, .int .i64 H, .int .i64 F, .int .i64 L, .int .i64 X, .int .i64 Y] 23) 71 #[.int .i64 nl, .int .i64 nh, .int .i64 xl, .int .i64 xh, .int .i64 y]
  have hB := pro_2 w (.cells #[.int .i64 W, .int .i64 H, .int .i64 F, .int .i64 L, .int .i64 X, .int .i64 Y] 23) (.cells #[.int .i64 nl, .int .i64 nh, .int .i64 xl, .int .i64 xh, .int .i64 y] 71)
  generalize (w.alloc (.cells #[.int .i64 W, .int .i64 H, .int .i64 F, .int .i64 L, .int .i64 X, .int .i64 Y] 23)).alloc (.cells #[.int .i64 nl, .int .i64 nh, .int .i64 xl, .int .i64 xh, .int .i64 y] 71) = W0 at *
  have qhS := fun i => Blk.cell hS i
  have qhQ := fun i => Blk.cell hQ i
  go_upto_region 2 with (go_at_call 53; refine (HWHO.out _ (fun f h => ((hf f h).below hB).more hB.size) (rdB hr hB) (rdB hsr hB)).mono ?_; rintro e w1 ⟨v1, rfl, hIs, hb⟩; obtain ⟨A1, n1, c1, rfl, hk1, hk2, hW⟩ := hIs; (try replace hS := hS.below hb hS.lt); (try replace hQ := hQ.below hb hQ.lt); replace hB := hB.trans (hb.mono hB.size); (try clear qhS); (try clear qhQ); clear hb; (try have qhS := fun i => Blk.cell hS i); (try have qhQ := fun i => Blk.cell hQ i))
  clear HWHO
  have hwl := hW.len
  rcases hE with rfl | rfl | rfl
  · have h := HI.out
    rw [if_pos rfl] at h
    subst h
    clear HI
    go_wp2_with (fail)
    go_ret
    exact ⟨rfl, hB⟩
  · have h := HI.out
    rw [if_neg (by decide), hwl] at h
    by_cases hnn : n1 = n
    · rw [if_pos ⟨rfl, hnn⟩] at h
      have HWL := Lib.hid hwl; clear hwl
      subst n1
      have HR := Lib.hid h; clear h HI
      have hne : ((n : Int) != n) = false := by simp
      go_wp2_with (fail)
      go_loop [11, 12] (fun s i => ∃ (k acc : Nat), k ≤ n ∧ i = .int .i64 k ∧ s = .int .i64 acc ∧ acc = ((wl.take k).filter fun z => z != 1).length ∧ acc ≤ k) (fun _ i => n - (intOf i).toNat)
      case atStart => exact ⟨0, 0, Nat.zero_le _, rfl, rfl, rfl, Nat.zero_le _⟩
      case round =>
        obtain ⟨k, acc, hk, rfl, rfl, hacc, hle⟩ := hrel
        by_cases hlt : k < n
        · obtain ⟨cb, coff, hz, rfl, hcb, hcc⟩ := hW.atm hlt
          have hft := filter_take (fun z : Int => z != 1) wl k hz
          have hft2 := congrArg List.length hft
          rw [List.length_append, ← hacc] at hft2
          generalize wl[k] = z at *
          have HT := Lib.hid hft2; clear hft hft2 hacc
          cases hz1 : (z != 1)
          · go_wp2_with (fail)
            go_round
            case rel => exact ⟨k + 1, acc, by omega, by go_num, rfl, by rw [HT.out, hz1]; simp, by omega⟩
            case measure => simp [intOf]; omega
          · go_wp2_with (fail)
            go_round
            case rel => exact ⟨k + 1, acc + 1, by omega, by go_num, by go_num, by rw [HT.out, hz1]; simp, by omega⟩
            case measure => simp [intOf]; omega
        · obtain rfl : k = n := by omega
          have htk : wl.take k = wl := List.take_of_length_le (by have := HWL.out; omega)
          rw [htk] at hacc
          have HACC := Lib.hid hacc; clear hacc htk
          go_wp2_with (fail)
          go_ret
          exact ⟨ret_int (by rw [HR.out, HACC.out]), hB⟩
    · rw [if_neg (fun h => hnn h.2)] at h
      subst h
      clear HI
      have hne : ((n1 : Int) != n) = true := by simp; omega
      go_wp2_with (fail)
      go_ret
      exact ⟨rfl, hB⟩
  · have h := HI.out
    rw [if_neg (by decide), if_neg (by simp)] at h
    subst h
    clear HI
    go_wp2_with (fail)
    go_ret
    exact ⟨rfl, hB⟩
end Go.Proofs.YtifddfchpknkbaaGreatDoor
