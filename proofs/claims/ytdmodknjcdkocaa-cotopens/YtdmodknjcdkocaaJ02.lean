/- Regions that draw their order: what is held need not be held behind the last stores, where these wait for what is taken first. Cut, as the program and as the document reckons it; the example 'awake'. Bytes and texts; putWord; Nonce; the walk of ChachaNonces. -/
import Derived.Test.YtdmodknjcdkocaaJ01
import Derived.Deep.RegionHeld3
import Derived.Laws.CopyOwn
import Derived.Deep.Cut
import Derived.Deep.CutBlock
import Derived.Deep.DeepCutAuto
import Derived.Lib.EndianBits
import Derived.Laws.BytesString
import Derived.Laws.CopyRow
namespace Go.Proofs.Ytdmodknjcdkocaa.Pg
open Go.RowKit

/- as wpAnyH, but behind an operation of F nothing of S is asked -/
def wpAnyF (P : Program) (md : Region.Mode) (ops : Array Oper) (Q : Exit → Act → World → Prop) (S : World → Prop) (F : List Nat) : Nat → Array Bool → Act → World → Prop
  | 0, listed, a, w => Region.ready md ops listed = [] ∧ Q .normal a w
  | fuel + 1, listed, a, w =>
    (Region.ready md ops listed = [] → Q .normal a w) ∧
    ∀ i ∈ Region.ready md ops listed, wpOp P ops Q i (fun a' w' => (i ∉ F → S w → S w') ∧ wpAnyF P md ops Q S F fuel (listed.setIfInBounds i true) a' w') a w

theorem wpAny_of_f {P : Program} {ops : Array Oper} {Q : Exit → Act → World → Prop} {md : Region.Mode} {S : World → Prop} {F : List Nat} : ∀ (fuel : Nat) (listed : Array Bool) (a : Act) (w : World), wpAnyF P md ops Q S F fuel listed a w → wpAny P md ops Q fuel listed a w
  | 0, _, _, _, h => h
  | fuel + 1, _, _, _, h => ⟨h.1, fun i hi => wpOp_mono (fun a' w' h' => wpAny_of_f fuel _ a' w' h'.2) (h.2 i hi)⟩

/- each of cs waits for i, or for another of cs -/
def waits (md : Region.Mode) (ops : Array Oper) (i : Nat) (cs : List Nat) : Bool :=
  cs.all fun c => match ops[c]? with
    | some o => o.after.any fun e => Region.binds md e && (e.on == i || cs.contains e.on)
    | none => false

theorem waits_spec {ops : Array Oper} {md : Region.Mode} {i : Nat} {cs : List Nat} (h : waits md ops i cs = true) {listed : Array Bool} (hi : listed.getD i true = false) (hc : ∀ c ∈ cs, listed.getD c true = false) {j : Nat} (hj : j ∈ Region.ready md ops listed) : j ∉ cs := by
  intro hjc
  have h1 := List.all_eq_true.1 h j hjc
  obtain ⟨_, oj, hoj, hall⟩ := mem_ready.1 hj
  rw [hoj] at h1
  obtain ⟨k, hk, h2⟩ := Array.any_eq_true.1 h1
  simp only [Bool.and_eq_true, Bool.or_eq_true, beq_iff_eq, List.contains_iff_mem] at h2
  have h3 := hall _ (Array.getElem_mem hk) h2.1
  have h4 : listed.getD (oj.after[k]).on true = false := by
    rcases h2.2 with h5 | h5
    · rw [h5]; exact hi
    · exact hc _ h5
  rcases Nat.lt_or_ge (oj.after[k]).on listed.size with h' | h'
  · simp [h'] at h3 h4
    rw [h3] at h4
    cases h4
  · simp [Array.getElem?_eq_none h'] at h3

/- an operation i may be taken first, if R (what its value hangs on) outlives whatever else may come up, as long as J holds of what has come up -/
theorem front {P : Program} {ops : Array Oper} {Q : Exit → Act → World → Prop} {md : Region.Mode} {S : World → Prop} {F : List Nat} {i : Nat} {oi : Oper} {v : Value} {R : World → Prop} {J : Array Bool → Prop} (hi : ops[i]? = some oi) (hsel : ∀ (j : Nat) (o : Oper) cs b, ops[j]? = some o → o.op ≠ .select cs b)
    (hQ : ∀ c a w, Q (.panic c) (a.put oi.dst v) w → Q (.panic c) a w)
    (hJ : ∀ listed j, J listed → i ∈ Region.ready md ops listed → j ∈ Region.ready md ops listed → j ≠ i → J (listed.setIfInBounds j true) ∧ (∃ oj, ops[j]? = some oj ∧ oi.apart ops oj = true) ∧ ∀ w w', (j ∉ F → S w → S w') → R w → R w') :
    ∀ (fuel : Nat) (listed : Array Bool) (a : Act) (w : World), J listed → i ∈ Region.ready md ops listed → YieldsIf P ops R oi v a → R w →
      wpAnyF P md ops Q S F fuel (listed.setIfInBounds i true) (a.put oi.dst v) w → wpAnyF P md ops Q S F (fuel + 1) listed a w
  | fuel, listed, a, w, hl, hr, hy, hR, H => by
    refine ⟨fun h0 => absurd hr (by rw [h0]; exact List.not_mem_nil), fun j hj => ?_⟩
    rcases Nat.decEq j i with hne | heq
    · obtain ⟨hl', ⟨oj, hoj, hap⟩, hkeep⟩ := hJ listed j hl hr hj hne
      have hj' : j ∈ Region.ready md ops (listed.setIfInBounds i true) := ready_mono hj hne
      match fuel, H with
      | 0, H => exact absurd hj' (by rw [H.1]; exact List.not_mem_nil)
      | fuel + 1, H =>
        have step := wpOp_putIf hoj hap (fun cs b => hsel i oi cs b hi) (fun cs b => hsel j oj cs b hoj) hQ hy (H.2 j hj')
        exact wpOp_mono (fun a' w' hs => ⟨hs.2.1, front hi hsel hQ hJ fuel _ a' w' hl' (ready_mono hr (Ne.symm hne)) hs.1 (hkeep w w' hs.2.1 hR) (by
          rw [Array.setIfInBounds_comm _ _ hne]
          exact hs.2.2)⟩) step
    · subst heq
      exact hy.wpOp hi hR ⟨fun _ h => h, H⟩

/- what has not come up and does not wait for i is apart from it -/
def Clear (md : Region.Mode) (ops : Array Oper) (i : Nat) (oi : Oper) (listed : Array Bool) : Prop :=
  ∀ j oj, ops[j]? = some oj → j ≠ i → listed.getD j true = false → (∀ e ∈ oj.after, Region.binds md e = true → e.on ≠ i) → oi.apart ops oj = true

theorem Clear.next {md : Region.Mode} {ops : Array Oper} {i : Nat} {oi : Oper} {listed : Array Bool} (h : Clear md ops i oi listed) (hr : i ∈ Region.ready md ops listed) {j : Nat} (hj : j ∈ Region.ready md ops listed) (hne : j ≠ i) :
    Clear md ops i oi (listed.setIfInBounds j true) ∧ ∃ oj, ops[j]? = some oj ∧ oi.apart ops oj = true := by
  obtain ⟨hun, oj, hoj, hall⟩ := mem_ready.1 hj
  refine ⟨fun k ok hk hki hku hno => h k ok hk hki ?_ hno, oj, hoj, h j oj hoj hne hun fun e he hb heq => ?_⟩
  · by_cases hjk : j = k
    · rw [← hjk]; exact hun
    · rw [getD_set_ne true hjk] at hku; exact hku
  · have up := hall e he hb
    have down := (mem_ready.1 hr).1
    rw [heq] at up
    by_cases hsz : i < listed.size
    · simp [hsz] at up down
      rw [down] at up
      cases up
    · simp [Array.getElem?_eq_none (Nat.le_of_not_lt hsz)] at up

def unlisted (listed : Array Bool) (cs : List Nat) : Bool := cs.all fun c => listed.getD c true == false

/- an operation that may come first, its slot named; cs: what waits for it, F among them -/
theorem take_f {P : Program} {ops : Array Oper} {Q : Exit → Act → World → Prop} {md : Region.Mode} {S : World → Prop} {F : List Nat} (i d : Nat) (v : Value) (cs : List Nat) {oi : Oper} {fuel : Nat} {listed : Array Bool} {tmps : Array Value} {ds : List Deferred} {w : World} (hi : ops[i]? = some oi) (hd : oi.dst = some d)
    (hs : Region.noSelect ops = true) (hf : Region.free md ops listed i = true) (hr : (Region.ready md ops listed).contains i = true) (hcs : waits md ops i cs = true) (hF : F.all (cs.contains ·) = true) (hu : unlisted listed cs = true)
    (hQ : ∀ c a w, Q (.panic c) (a.put oi.dst v) w → Q (.panic c) a w) (hw : Region.wanted oi (yielded ops tmps) = true) (hy : ∀ w, S w → (execOp (Act.eval ⟨tmps, ds⟩) oi).run P w = .ok (.value v) w) (hS : S w)
    (h : wpAnyF P md ops Q S F fuel (listed.setIfInBounds i true) ⟨tmps.setIfInBounds d v, ds⟩ w) : wpAnyF P md ops Q S F (fuel + 1) listed ⟨tmps, ds⟩ w :=
  front (R := S) (J := fun L => Clear md ops i oi L ∧ ∀ c ∈ cs, L.getD c true = false) hi (Region.noSelect_spec hs) hQ
    (fun L j hL hri hrj hne => by
      obtain ⟨h1, h2⟩ := hL.1.next hri hrj hne
      have hjc : j ∉ cs := waits_spec hcs (mem_ready.1 hri).1 hL.2 hrj
      refine ⟨⟨h1, fun c hc => ?_⟩, h2, fun _ _ hk hw => hk (fun hf => hjc (by simpa using List.all_eq_true.1 hF j hf)) hw⟩
      have hjk : j ≠ c := fun hjk => hjc (by rw [hjk]; exact hc)
      rw [getD_set_ne true hjk]
      exact hL.2 c hc)
    fuel listed _ w ⟨Region.free_spec hi hf, fun c hc => by simpa using List.all_eq_true.1 hu c hc⟩ (by simpa using hr) (Or.inl ⟨hw, hy⟩) hS (by rw [hd]; exact h)

/- an operation whose value hangs on no world may come first, whatever F is -/
theorem take_p {P : Program} {ops : Array Oper} {Q : Exit → Act → World → Prop} {md : Region.Mode} {S : World → Prop} {F : List Nat} (i d : Nat) (v : Value) {oi : Oper} {fuel : Nat} {listed : Array Bool} {tmps : Array Value} {ds : List Deferred} {w : World} (hi : ops[i]? = some oi) (hd : oi.dst = some d)
    (hs : Region.noSelect ops = true) (hf : Region.free md ops listed i = true) (hr : (Region.ready md ops listed).contains i = true)
    (hQ : ∀ c a w, Q (.panic c) (a.put oi.dst v) w → Q (.panic c) a w) (hw : Region.wanted oi (yielded ops tmps) = true) (hy : ∀ w, (execOp (Act.eval ⟨tmps, ds⟩) oi).run P w = .ok (.value v) w)
    (h : wpAnyF P md ops Q S F fuel (listed.setIfInBounds i true) ⟨tmps.setIfInBounds d v, ds⟩ w) : wpAnyF P md ops Q S F (fuel + 1) listed ⟨tmps, ds⟩ w :=
  front (R := fun _ => True) (J := Clear md ops i oi) hi (Region.noSelect_spec hs) hQ
    (fun L j hL hri hrj hne => ⟨(hL.next hri hrj hne).1, (hL.next hri hrj hne).2, fun _ _ _ _ => trivial⟩)
    fuel listed _ w (Region.free_spec hi hf) (by simpa using hr) (Or.inl ⟨hw, fun w _ => hy w⟩) trivial (by rw [hd]; exact h)

/- one alone may come up -/
theorem ready_f {P : Program} {ops : Array Oper} {Q : Exit → Act → World → Prop} {md : Region.Mode} {S : World → Prop} {F : List Nat} (i : Nat) {o : Oper} {fuel : Nat} {listed : Array Bool} {a : Act} {w : World} (hr : Region.ready md ops listed = [i]) (ho : ops[i]? = some o)
    (h : ∀ K : Act → World → Prop, Shut (∀ a' w', (i ∉ F → S w → S w') → wpAnyF P md ops Q S F fuel (listed.setIfInBounds i true) a' w' → K a' w') → if Region.wanted o (yielded ops a.tmps) = true then Oper.wp P o a w K Q else K (a.put o.dst undef) w) :
    wpAnyF P md ops Q S F (fuel + 1) listed a w := by
  refine ⟨fun h0 => (by rw [hr] at h0; cases h0), ?_⟩
  intro j hj
  rw [hr] at hj
  have hji : j = i := by simpa using hj
  rw [hji]
  exact wpOp_step ho (fun K hK => h K (fun a w hS hW => hK a w ⟨hS, hW⟩))

theorem done_f {P : Program} {ops : Array Oper} {Q : Exit → Act → World → Prop} {md : Region.Mode} {S : World → Prop} {F : List Nat} {listed : Array Bool} {a : Act} {w : World} (hr : Region.ready md ops listed = []) (h : Q .normal a w) :
    ∀ fuel, wpAnyF P md ops Q S F fuel listed a w
  | 0 => ⟨hr, h⟩
  | _ + 1 => ⟨fun _ => h, by rw [hr]; simp⟩

theorem region_f {P : Program} {ops : Array Oper} {Q : Exit → Act → World → Prop} {S : World → Prop} {F : List Nat} {id : Nat} {a : Act} {w : World} (hm : P.follows .mixedOrders = true) (hS : S w.drew)
    (h : S w.drew → wpAnyF P .any ops Q S F ops.size (Array.replicate ops.size false) a w.drew) : (Code.region id ops true).wp P Q a w :=
  wp_region_any hm (wpAny_of_f _ _ _ _ (h hS))

end Go.Proofs.Ytdmodknjcdkocaa.Pg

namespace Go.Proofs.Ytdmodknjcdkocaa.Pg
open Go.RowKit
set_option maxRecDepth 100000
attribute [local go_sem] not_any

def cutN (n : Nat) : Nat := if n = 0 then 0 else (18446744073709551616 - 18446744073709551616 % n) % 18446744073709551616

theorem top_mod {n : Nat} (hn : n < 18446744073709551616) : (18446744073709551616 - n) % n = 18446744073709551616 % n := by
  conv => rhs; rw [show 18446744073709551616 = (18446744073709551616 - n) + n by omega, Nat.add_mod_right]

theorem cutN_lt (n : Nat) : cutN n < 18446744073709551616 := by
  unfold cutN
  split
  · omega
  · exact Nat.mod_lt _ (by omega)

theorem left_of {n : Nat} (h0 : n ≠ 0) : 18446744073709551616 % n = if 18446744073709551615 % n + 1 = n then 0 else 18446744073709551615 % n + 1 := by
  have h := Nat.mod_lt 18446744073709551615 (show n > 0 by omega)
  have e : 18446744073709551616 % n = (18446744073709551615 % n + 1) % n := by
    rw [show 18446744073709551616 = 18446744073709551615 + 1 by rfl, Nat.add_mod]
    conv => rhs; rw [Nat.add_mod, Nat.mod_mod]
  rw [e]
  split
  · rename_i he
    rw [he, Nat.mod_self]
  · exact Nat.mod_eq_of_lt (by omega)

end Go.Proofs.Ytdmodknjcdkocaa.Pg

namespace Go.Proofs.Ytdmodknjcdkocaa.Pg
open Go.RowKit
set_option maxRecDepth 100000
attribute [local go_sem] not_any

def zeros (n : Nat) : List Nat := List.replicate n 0
theorem zeros_length (n : Nat) : (zeros n).length = n := by simp [zeros]

/- a text's bytes -/
def nums (s : ByteArray) : List Nat := s.data.toList.map (fun b => b.toNat)
theorem nums_length (s : ByteArray) : (nums s).length = s.size := by
  rw [nums, List.length_map]
  exact Array.length_toList
theorem nums_lt (s : ByteArray) : Lt 256 (nums s) := by
  intro x hx
  simp only [nums, List.mem_map] at hx
  obtain ⟨b, _, rfl⟩ := hx
  exact b.toNat_lt
theorem nums_extract (s : ByteArray) (a b : Nat) : nums (s.extract a b) = ((nums s).drop a).take (b - a) := by
  obtain ⟨⟨l⟩⟩ := s
  rw [nums, nums, ByteArray.extract_mk]
  simp
theorem nums_append (s t : ByteArray) : nums (s ++ t) = nums s ++ nums t := by
  unfold nums
  rw [ByteArray.data_append]
  simp

/- bytes as a text -/
def txtFrom (r : ByteArray) (l : List Nat) : ByteArray := (l.map (fun n : Nat => (n : Int))).foldl (fun r n => r.push (UInt8.ofNat n.toNat)) r
def txt (l : List Nat) : ByteArray := txtFrom ByteArray.empty l
theorem nums_push (r : ByteArray) (n : Nat) (h : n < 256) : nums (r.push (UInt8.ofNat n)) = nums r ++ [n] := by
  obtain ⟨⟨a⟩⟩ := r
  simp [nums, ByteArray.push, Nat.mod_eq_of_lt h]
theorem nums_from : ∀ (l : List Nat) (r : ByteArray), Lt 256 l → nums (txtFrom r l) = nums r ++ l
  | [], r, _ => by simp [txtFrom]
  | n :: l, r, h => by
    have h1 : n < 256 := h n (List.mem_cons_self ..)
    have := nums_from l (r.push (UInt8.ofNat n)) (fun x hx => h x (List.mem_cons_of_mem _ hx))
    rw [nums_push r n h1, List.append_assoc] at this
    exact this
theorem nums_txt {l : List Nat} (h : Lt 256 l) : nums (txt l) = l := by
  rw [txt, nums_from l _ h]
  rfl
theorem conv_row {w : World} {g cap : Nat} {t : TypeId} {l : List Nat} (h : w.heap[g]? = some (row8 t l)) :
    (convert 88 9 (.slice (some ⟨g, 0, none⟩) l.length cap)).run Try.prog w = .ok (.string (txt l)) w := by
  rw [run_convert_bytes_string w 88 9 5 _ _ _ Try.underlying88 Try.underlying5 Try.underlying9]
  have hl := run_loadCells_list (P := Try.prog) w ⟨g, 0, none⟩ (u8s l) (fun j v hv => by
    rw [Addr.add_lit, Nat.zero_add, cell_of_row w g j _ t (0, 0) h]
    simpa using hv)
  rw [u8s_length] at hl
  have e : u8s l = (l.map (fun n : Nat => (n : Int))).map (Value.int .u8) := by simp [u8s]
  rw [e] at hl
  exact run_bytesToString w _ _ _ _ hl

theorem nums_size {p : ByteArray} {l : List Nat} (h : nums p = l) : p.size = l.length := by rw [← h, nums_length]

/- a text's byte -/
theorem run_index (s : ByteArray) (j : Nat) (h : j < s.size) (w : World) : (Instr.index 9 (.string s) (.int .i64 (j : Int))).run Try.prog w = .ok (.int .u8 (at0 (nums s) j : Nat)) w := by
  have e : at0 (nums s) j = (s[j]).toNat := by
    have h1 : (nums s)[j]? = some (s[j]).toNat := by
      rw [nums, List.getElem?_map]
      have : s.data.toList[j]? = some s[j] := by
        rw [Array.getElem?_toList]
        exact Array.getElem?_eq_getElem (show j < s.data.size from h)
      rw [this]
      rfl
    exact at0_get h1
  rw [e]
  go_simp

theorem run_arrl (T n : Nat) (hT : Try.prog.underlying T = some (.array n 5)) (g p : Nat) (w : World) (h : p < n) :
    (Instr.sliceAt T (.pointer (some ⟨g, 0, none⟩)) (some (.int .i64 (p : Int))) none none).run Try.prog w = .ok (.slice (some ⟨g, p, none⟩) (n - p) (n - p)) w := by
  have hs : (sizeOf 5).run Try.prog w = .ok 1 w := by kernel_rfl
  have a1 : (p : Int) ≤ (n : Int) := by omega
  have a2 : ¬ n = p := by omega
  simp [Instr.sliceAt, Instr.sureAddr, run_underlying hT, Instr.sliceBounds, run_sliceBound, a1, a2, Addr.add_lit]

/- a word's bytes laid from a place on -/
def setB (l : List Nat) (o x : Nat) : Nat → List Nat
  | 0 => l
  | k + 1 => (setB l o x k).set (o + k) (x / 2 ^ (8 * k) % 256)
theorem setB_length (l : List Nat) (o x : Nat) : ∀ k, (setB l o x k).length = l.length
  | 0 => rfl
  | k + 1 => by rw [setB, List.length_set, setB_length l o x k]
theorem setB_lt {l : List Nat} (h : Lt 256 l) (o x : Nat) : ∀ k, Lt 256 (setB l o x k)
  | 0 => h
  | k + 1 => (setB_lt h o x k).set (Nat.mod_lt _ (by omega)) _

set_option maxHeartbeats 1000000 in
theorem put_any (l : List Nat) (x g o m c : Nat) (t : TypeId) (w : World) (hr : w.heap[g]? = some (row8 t l)) (hm : 4 ≤ m) (ho : o + 4 ≤ l.length) :
    Calls Try.prog 60 #[.slice (some ⟨g, o, none⟩) m c, .int .u32 (x : Int)] w fun e w' => e = .returned (.tuple #[]) ∧ w' = w.setRow g (u8s (setB l o x 4)).toArray := by
  have HR := hide1 hr
  have hm4 : (4 : Int) ≤ (m : Int) := by omega
  have Ho := hide1 ho
  clear hr hm ho
  go_enter Try.func60, Try.ntmps60
  go_wp2
  go_loopw [5] (fun i wr => ∃ k : Nat, k ≤ 4 ∧ i = .int .i64 k ∧ wr = w.setRow g (u8s (setB l o x k)).toArray) (fun i _ => 4 - (intOf i).toNat)
  case atStart => exact ⟨0, Nat.zero_le _, rfl, (setRow_self w g _ t (0, 0) HR.out).symm⟩
  case round =>
    obtain ⟨k, hk, rfl, hwr⟩ := hrel
    by_cases hlt : k < 4
    · have hrow : wr.heap[g]? = some (row8 t (setB l o x k)) := by rw [hwr]; exact setRow_heap _ _ _ _ _ _ HR.out
      have hln : (setB l o x k).length = l.length := setB_length _ _ _ _
      have c1 := cell8 hrow (j := o + k) (by rw [hln]; have := Ho.out; omega)
      have f1 := frozen_of_row wr g (o + k) _ _ hrow
      have HN : Shy (wr.setCell ⟨g, o + k, none⟩ (.int .u8 ((x / 2 ^ (8 * k) % 256 : Nat) : Int)) = w.setRow g (u8s (setB l o x (k + 1))).toArray) := ⟨by
        rw [setCell_eq_setRow wr g (o + k) _ t (0, 0) _ hrow, hwr, setRow_setRow, setB]
        congr 1
        simp [u8s]⟩
      have hki : (k : Int) < 4 := by omega
      have hkm : (k : Int) < (m : Int) := by omega
      obtain ⟨p, hp⟩ : ∃ p, p = 8 * k := ⟨_, rfl⟩
      have ep : 8 * (k : Int) = (p : Int) := by omega
      have hp32 : (p : Int) < 32 := by omega
      rw [← hp] at HN
      obtain ⟨z, hz⟩ : ∃ z, z = x / 2 ^ p % 256 := ⟨_, rfl⟩
      have ez : (x : Int) / 2 ^ p % 256 = (z : Int) := by
        rw [hz, Int.natCast_emod, Int.natCast_ediv, Int.natCast_pow]; rfl
      have ez' : IntKind.u8.wrap ((x : Int) / 2 ^ p) = (z : Int) := by rw [IntKind.wrap_u8, ez]
      rw [← hz] at HN
      clear hz hp hwr hrow hln
      go_wp2
      go_roundw
      case rel => exact ⟨k + 1, by omega, by go_num, HN.out⟩
      case measure => simp [intOf]; omega
    · have : k = 4 := by omega
      subst this
      have HW := hide1 hwr
      clear hwr
      go_wp2
      go_end0
      exact ⟨rfl, HW.out⟩
end Go.Proofs.Ytdmodknjcdkocaa.Pg
