/- The document's own answers of its nodes: the first place, and the text. -/
import Derived.Test.YtogninhgibbfnaaDoorMa
namespace Go.Proofs.YtogninhgibbfnaaDoor
open Go.RowKit Go.Shelf
set_option maxRecDepth 100000
attribute [local go_sem] not_any mf_any

def tAt (is : List (Option Info)) (x : Int) : List UInt8 := match lookI is x with | some i => i.text | none => []
def oAt (is : List (Option Info)) (x : Int) : Option ByteArray := match lookI is x with | some i => ansAt i | none => none
def pAt (is : List (Option Info)) (x : Int) : List ByteArray := match lookI is x with | some i => i.path | none => []

theorem lookI_nat {is : List (Option Info)} {n : Nat} {o : Option Info} (h : is[n]? = some o) : lookI is (n : Int) = o := by
  have h0 : ¬ (n : Int) < 0 := by omega
  simp [lookI, look, h, h0]

theorem Good.at {l : List Rw} {is : List (Option Info)} (h : Good l is) {n : Nat} (hn : n < l.length) : ∃ r o, l[n]? = some r ∧ lookI is (n : Int) = o ∧ kindI l (n : Int) = r.kind ∧ Fits is n r o := by
  have h1 : l[n]? = some l[n] := List.getElem?_eq_getElem hn
  have hn' : n < is.length := by rw [← h.1]; exact hn
  have h2 : is[n]? = some is[n] := List.getElem?_eq_getElem hn'
  have h0 : ¬ (n : Int) < 0 := by omega
  exact ⟨_, _, h1, lookI_nat h2, by simp [kindI, look, hn, h0], h.2 n _ _ h1 h2⟩

theorem ba_add (a b : List UInt8) : (⟨(a ++ b).toArray⟩ : ByteArray) = ⟨a.toArray⟩ ++ ⟨b.toArray⟩ := by
  apply ByteArray.ext
  simp

theorem bytes_size (s : ByteArray) : (bytes s).length = s.size := by simp [bytes]

theorem ba_bytes (s : ByteArray) : (⟨(bytes s).toArray⟩ : ByteArray) = s := by
  simp [bytes]

set_option maxHeartbeats 1000000 in
theorem rat_any (v : Value) (l : List Rw) (is : List (Option Info)) (hg : Good l is) (hl : l.length ≤ 1000000) (W : World) (hv : RowsAt W v l) :
    ∀ (k n : Nat), n < k → n < l.length → Calls Tryd.prog 17 #[v, .int .i64 n] W fun e w' => e = .returned (.tuple #[.string ((oAt is n).getD ⟨#[]⟩), .bool (oAt is n).isSome]) ∧ W = w'
  | 0, n, h, _ => by omega
  | k + 1, n, hnk, hn => by
    have IH := rat_any v l is hg hl W hv k
    obtain ⟨r, o, hr, ho, hk, hf⟩ := hg.at hn
    have hK := kind_calls' v l hl n W hv
    rw [hk] at hK
    obtain ⟨a, cap, rfl, hc⟩ := hv
    obtain ⟨g, oo, rfl, c0, c1, c2, c3, c4⟩ := hc n r hr
    clear hc hk hr
    rcases hf with ⟨h0, rfl⟩ | ⟨h0, _, rfl⟩ | ⟨h0, _, rfl⟩ | ⟨h0, h1, h2, i, h3, rfl⟩ | ⟨h0, h1, h2, h3, h4, i, j, h5, h6, rfl⟩
    · have e : oAt is n = none := by simp [oAt, ho]
      rw [e]
      rw [h0] at hK
      have HK := hide1 hK
      clear hK ho e IH
      go_enter Tryd.func17, Tryd.ntmps17
      go_wp2_with (go_at_call 28; refine HK.out.mono ?_; rintro e w' ⟨rfl, rfl⟩)
      go_ret2
      exact ⟨rfl, rfl⟩
    · have e : oAt is n = some r.wh := by simp [oAt, ho, rootI, ansAt]
      rw [e]
      rw [h0] at hK
      have HK := hide1 hK
      clear hK ho e IH
      go_enter Tryd.func17, Tryd.ntmps17
      go_wp2_with (go_at_call 28; refine HK.out.mono ?_; rintro e w' ⟨rfl, rfl⟩)
      go_ret2
      exact ⟨rfl, rfl⟩
    · have e : oAt is n = none := by simp [oAt, ho, errnoI, ansAt]
      rw [e]
      rw [h0] at hK
      have HK := hide1 hK
      clear hK ho e IH
      go_enter Tryd.func17, Tryd.ntmps17
      go_wp2_with (go_at_call 28; refine HK.out.mono ?_; rintro e w' ⟨rfl, rfl⟩)
      go_ret2
      exact ⟨rfl, rfl⟩
    · have e : oAt is n = some r.wh := by simp [oAt, ho, wrapI, ansAt]
      rw [e]
      rw [h0] at hK
      have HK := hide1 hK
      clear hK ho e IH h3
      go_enter Tryd.func17, Tryd.ntmps17
      go_wp2_with (go_at_call 28; refine HK.out.mono ?_; rintro e w' ⟨rfl, rfl⟩)
      go_ret2
      exact ⟨rfl, rfl⟩
    · obtain ⟨na, hna⟩ : ∃ na : Nat, r.a = na := ⟨r.a.toNat, by omega⟩
      obtain ⟨nb, hnb⟩ : ∃ nb : Nat, r.b = nb := ⟨r.b.toNat, by omega⟩
      rw [hna] at h1 h2 h5 c3
      rw [hnb] at h3 h4 h6 c4
      have ea : oAt is na = ansAt i := by simp [oAt, h5]
      have eb : oAt is nb = ansAt j := by simp [oAt, h6]
      have A := IH na (by omega) (by omega)
      have B := IH nb (by omega) (by omega)
      rw [ea] at A
      rw [eb] at B
      rw [h0] at hK
      by_cases ia : i.has = true
      · have e : oAt is n = some i.place := by simp [oAt, ho, pairI, ansAt, ia]
        rw [e]
        have e2 : ansAt i = some i.place := by simp [ansAt, ia]
        rw [e2] at A
        have HA := hide1 A
        have HK := hide1 hK
        clear hK ho e IH A B e2 ea eb h5 h6
        go_enter Tryd.func17, Tryd.ntmps17
        go_wp2_with (go_at_call 28; refine HK.out.mono ?_; rintro e w' ⟨rfl, rfl⟩)
        refine HA.out.mono ?_
        rintro e w' ⟨rfl, rfl⟩
        go_wp2
        go_ret2
        exact ⟨rfl, rfl⟩
      · have e : oAt is n = ansAt j := by
          simp [oAt, ho, pairI, ansAt, ia]
        rw [e]
        have e2 : ansAt i = none := by simp [ansAt, ia]
        rw [e2] at A
        have HA := hide1 A
        have HB := hide1 B
        have HK := hide1 hK
        clear hK ho e IH A B e2 ea eb h5 h6
        go_enter Tryd.func17, Tryd.ntmps17
        go_wp2_with (go_at_call 28; refine HK.out.mono ?_; rintro e w' ⟨rfl, rfl⟩)
        refine HA.out.mono ?_
        rintro e w' ⟨rfl, rfl⟩
        go_wp2_with fail
        refine HB.out.mono ?_
        rintro e w' ⟨rfl, rfl⟩
        go_wp2
        go_ret2
        exact ⟨rfl, rfl⟩

set_option maxHeartbeats 2000000 in
theorem rtext_any (v : Value) (l : List Rw) (is : List (Option Info)) (hg : Good l is) (hl : l.length ≤ 1000000) (hb : ∀ n i, lookI is n = some i → i.text.length ≤ 1099511627776) :
    ∀ (k n : Nat), n < k → n < l.length → ∀ W : World, RowsAt W v l → Calls Tryd.prog 19 #[v, .int .i64 n] W fun e w' => e = .returned (.string ⟨(tAt is n).toArray⟩) ∧ ∃ m, w' = W.drewN m
  | 0, n, h, _ => by omega
  | k + 1, n, hnk, hn => fun W hv => by
    have IH := fun n h1 h2 m => rtext_any v l is hg hl hb k n h1 h2 (W.drewN m) hv
    obtain ⟨r, o, hr, ho, hk, hf⟩ := hg.at hn
    have hK := kind_calls' v l hl n W hv
    rw [hk] at hK
    obtain ⟨a, cap, rfl, hc⟩ := hv
    obtain ⟨g, oo, rfl, c0, c1, c2, c3, c4⟩ := hc n r hr
    clear hc hk hr
    rcases hf with ⟨h0, rfl⟩ | ⟨h0, _, rfl⟩ | ⟨h0, _, rfl⟩ | ⟨h0, h1, h2, i, h3, rfl⟩ | ⟨h0, h1, h2, h3, h4, i, j, h5, h6, rfl⟩
    · have e : tAt is n = [] := by simp [tAt, ho]
      rw [e]
      rw [h0] at hK
      have HK := hide1 hK
      clear hK ho e IH
      go_enter Tryd.func19, Tryd.ntmps19
      go_wp2_with (go_at_call 28; refine HK.out.mono ?_; rintro e w' ⟨rfl, rfl⟩)
      go_ret
      exact ⟨rfl, 0, rfl⟩
    · have e : (⟨(tAt is n).toArray⟩ : ByteArray) = r.wh ++ ⟨#[58, 32]⟩ ++ errWord r.code := by
        simp only [tAt, ho, rootI, ba_add, ba_bytes]
        rfl
      rw [e]
      rw [h0] at hK
      have HK := hide1 hK
      have hz := hb n _ ho
      simp only [rootI, List.length_append, bytes_size, colon, List.length_cons, List.length_nil] at hz
      have z1 : ¬ (9223372036854775807 < r.wh.size + 2) := by omega
      have z2 : ¬ (9223372036854775807 < r.wh.size + 2 + (errWord r.code).size) := by omega
      clear hK ho e IH hz
      go_enter Tryd.func19, Tryd.ntmps19
      go_wp2_with (go_at_call 28; refine HK.out.mono ?_; rintro e w' ⟨rfl, rfl⟩)
      go_quiet ((go_at_call 44; exact Calls.quiet_of_same (errno_any _ _)))
      go_wp2
      go_ret
      exact ⟨rfl, _, rfl⟩
    · have e : (⟨(tAt is n).toArray⟩ : ByteArray) = errWord r.code := by
        simp only [tAt, ho, errnoI, ba_bytes]
      rw [e]
      rw [h0] at hK
      have HK := hide1 hK
      clear hK ho e IH
      go_enter Tryd.func19, Tryd.ntmps19
      go_wp2_with (first | (go_at_call 28; refine HK.out.mono ?_; rintro e w' ⟨rfl, rfl⟩) | (go_at_call 44; refine (errno_any _ _).mono ?_; rintro e w' ⟨rfl, rfl⟩))
      go_ret
      exact ⟨rfl, 0, rfl⟩
    · obtain ⟨na, hna⟩ : ∃ na : Nat, r.a = na := ⟨r.a.toNat, by omega⟩
      rw [hna] at h1 h2 h3 c3
      have ea : tAt is na = i.text := by simp [tAt, h3]
      have e : (⟨(tAt is n).toArray⟩ : ByteArray) = r.wh ++ ⟨#[58, 32]⟩ ++ ⟨i.text.toArray⟩ := by
        simp only [tAt, ho, wrapI, ba_add, ba_bytes]
        rfl
      rw [e]
      rw [h0] at hK
      have A := IH na (by omega) (by omega)
      rw [ea] at A
      have HA := hide1 A
      have HK := hide1 hK
      have hz := hb n _ ho
      simp only [wrapI, List.length_append, bytes_size, colon, List.length_cons, List.length_nil] at hz
      have z1 : ¬ (9223372036854775807 < r.wh.size + 2) := by omega
      have z2 : ¬ (9223372036854775807 < r.wh.size + 2 + i.text.length) := by omega
      clear hK ho e IH A ea h3 hz
      go_enter Tryd.func19, Tryd.ntmps19
      go_wp2_with (go_at_call 28; refine HK.out.mono ?_; rintro e w' ⟨rfl, rfl⟩)
      go_quiet ((go_at_call 19; exact Calls.quiet_of (HA.out _)))
      go_wp2
      go_ret
      exact ⟨rfl, _, rfl⟩
    · obtain ⟨na, hna⟩ : ∃ na : Nat, r.a = na := ⟨r.a.toNat, by omega⟩
      obtain ⟨nb, hnb⟩ : ∃ nb : Nat, r.b = nb := ⟨r.b.toNat, by omega⟩
      rw [hna] at h1 h2 h5 c3
      rw [hnb] at h3 h4 h6 c4
      have ea : tAt is na = i.text := by simp [tAt, h5]
      have eb : tAt is nb = j.text := by simp [tAt, h6]
      have A := IH na (by omega) (by omega)
      have B := IH nb (by omega) (by omega)
      rw [ea] at A
      rw [eb] at B
      rw [h0] at hK
      have e : (⟨(tAt is n).toArray⟩ : ByteArray) = ⟨i.text.toArray⟩ ++ ⟨#[59, 32]⟩ ++ ⟨j.text.toArray⟩ := by
        simp only [tAt, ho, pairI, ba_add]
        rfl
      rw [e]
      have HA := hide1 A
      have HB := hide1 B
      have HK := hide1 hK
      have hz := hb n _ ho
      simp only [pairI, List.length_append, semi, List.length_cons, List.length_nil] at hz
      have z1 : ¬ (9223372036854775807 < i.text.length + 2) := by omega
      have z2 : ¬ (9223372036854775807 < i.text.length + 2 + j.text.length) := by omega
      clear hK ho e IH A B ea eb h5 h6 hz
      go_enter Tryd.func19, Tryd.ntmps19
      go_wp2_with (go_at_call 28; refine HK.out.mono ?_; rintro e w' ⟨rfl, rfl⟩)
      go_quiet (first | (go_at_call_of 19 (na); exact Calls.quiet_of (HA.out _)) | (go_at_call 19; exact Calls.quiet_of (HB.out _)))
      go_wp2
      go_ret
      exact ⟨rfl, _, rfl⟩

end Go.Proofs.YtogninhgibbfnaaDoor
