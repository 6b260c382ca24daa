/- direction: both sides of a direction. -/
import Derived.Test.YtlkkninnfiaedaaDoorJ17
import Derived.Test.YtlkkninnfiaedaaDoorJ15
import Derived.Test.YtlkkninnfiaedaaDoorJ31
namespace Go.Proofs.YtlkkninnfiaedaaDoor
open Go.RowKit Pg
set_option maxRecDepth 100000
attribute [local go_sem] not_any

/- a direction's seeds -/
def dz (kl : List Nat) (i : Nat) : List Nat := childP kl (2 * i)
def dn (kl : List Nat) (i : Nat) : List Nat := childP kl (2 * i + 1)
def dk (kl : List Nat) (i : Nat) : List Nat := if bt (wd kl 9 0) (wd kl 9 1) (i : Int) then dn kl i else dz kl i
theorem dz_len (kl : List Nat) (i : Nat) : (dz kl i).length = 32 := childP_length _ _
theorem dn_len (kl : List Nat) (i : Nat) : (dn kl i).length = 32 := childP_length _ _
theorem dk_len (kl : List Nat) (i : Nat) : (dk kl i).length = 32 := by
  rw [dk]
  split
  · exact dn_len kl i
  · exact dz_len kl i
def pf (f : Nat → List Nat) (k i : Nat) : List Nat := if i < k then f i else zeros 32
theorem pf_len {f : Nat → List Nat} (h : ∀ i, (f i).length = 32) (k i : Nat) : (pf f k i).length = 32 := by rw [pf]; split <;> first | exact h _ | exact zeros_length _
theorem pf_upd (f : Nat → List Nat) (k : Nat) : upd (pf f k) k (f k) = pf f (k + 1) := by
  funext i
  unfold upd pf
  by_cases h : i = k
  · rw [if_pos h, if_pos (by omega), h]
  · rw [if_neg h]
    by_cases h2 : i < k
    · rw [if_pos h2, if_pos (by omega)]
    · rw [if_neg h2, if_neg (by omega)]
theorem pf_at (f : Nat → List Nat) (k : Nat) : pf f (k + 1) k = f k := if_pos (by omega)
theorem pf_all {f : Nat → List Nat} {n : Nat} : flt (pf f n) n = flt f n := flt_congr (fun _ hi => if_pos hi)
theorem pf_none {f : Nat → List Nat} : pf f 0 = fun _ => zeros 32 := by funext i; exact if_neg (by omega)

def sbx (d0 d1 gk : Nat) : Obj := .cells #[.int .u64 (d0 : Int), .int .u64 (d1 : Int), .slice (some ⟨gk, 0, none⟩) 128 128] 62 (0, 0)
def rbx (gz go : Nat) : Obj := .cells #[.slice (some ⟨gz, 0, none⟩) 128 128, .slice (some ⟨go, 0, none⟩) 128 128] 64 (0, 0)
/- what lies in memory while a direction is made -/
structure Dm (kl : List Nat) (d0 d1 B gs gr gk gz go : Nat) (fk fz fo : Nat → List Nat) (w0 w : World) : Prop where
  seed : w.heap[B]? = some (row8 28 kl)
  r2 : w.heap[B + 1]? = some (.cells #[.int .u64 0, .int .u64 0, .slice none 0 0] 62 (0, 0))
  r3 : w.heap[B + 1 + 1]? = some (.cells #[.slice none 0 0, .slice none 0 0] 64 (0, 0))
  s : w.heap[gs]? = some (sbx d0 d1 gk)
  r : w.heap[gr]? = some (rbx gz go)
  rk : w.heap[gk]? = some (srow fk 128)
  rz : w.heap[gz]? = some (srow fz 128)
  ro : w.heap[go]? = some (srow fo 128)
  bel : Below B w0 w
section
variable {kl : List Nat} {d0 d1 B gs gr gk gz go : Nat} {fk fz fo : Nat → List Nat} {w0 w w' : World}
theorem Dm.to (h : Dm kl d0 d1 B gs gr gk gz go fk fz fo w0 w) (hb : Below w.heap.size w w') : Dm kl d0 d1 B gs gr gk gz go fk fz fo w0 w' :=
  have q : ∀ {g : Nat} {o : Obj}, w.heap[g]? = some o → w'.heap[g]? = some o := fun hg => (hb.block _ (lt_heap hg)).trans hg
  ⟨q h.seed, q h.r2, q h.r3, q h.s, q h.r, q h.rk, q h.rz, q h.ro, h.bel.trans (hb.mono (Nat.le_of_lt (lt_heap h.seed)))⟩
theorem Dm.cz (h : Dm kl d0 d1 B gs gr gk gz go fk fz fo w0 w) : w.cell? ⟨gr, 0, none⟩ = some (.slice (some ⟨gz, 0, none⟩) 128 128) := by rw [cell_of_row w gr 0 _ _ _ h.r]; rfl
theorem Dm.co (h : Dm kl d0 d1 B gs gr gk gz go fk fz fo w0 w) : w.cell? ⟨gr, 1, none⟩ = some (.slice (some ⟨go, 0, none⟩) 128 128) := by rw [cell_of_row w gr 1 _ _ _ h.r]; rfl
theorem Dm.ck (h : Dm kl d0 d1 B gs gr gk gz go fk fz fo w0 w) : w.cell? ⟨gs, 2, none⟩ = some (.slice (some ⟨gk, 0, none⟩) 128 128) := by rw [cell_of_row w gs 2 _ _ _ h.s]; rfl
theorem Dm.row (h : Dm kl d0 d1 B gs gr gk gz go fk fz fo w0 w) : w.rangeAt gs 0 [.int .u64 (d0 : Int), .int .u64 (d1 : Int)] := fun j v hv => by
  rw [Nat.zero_add, cell_of_row w gs j _ _ _ h.s]
  match j with
  | 0 => cases hv; rfl
  | 1 => cases hv; rfl
  | j + 2 => simp at hv
/- where they lie: apart -/
structure Ap (B gs gr gk gz go : Nat) : Prop where
  o : B + 2 < gs ∧ B + 2 < gr ∧ B + 2 < gk ∧ B + 2 < gz ∧ B + 2 < go
  p : gs ≠ gr ∧ gs ≠ gk ∧ gs ≠ gz ∧ gs ≠ go ∧ gr ≠ gk ∧ gr ≠ gz ∧ gr ≠ go ∧ gk ≠ gz ∧ gk ≠ go ∧ gz ≠ go
theorem Dm.setZ (h : Dm kl d0 d1 B gs gr gk gz go fk fz fo w0 w) (ha : Ap B gs gr gk gz go) (hf : ∀ i, (fz i).length = 32) {k : Nat} (hk : k < 128) {s : List Nat} (hs : s.length = 32) : Dm kl d0 d1 B gs gr gk gz go fk (upd fz k s) fo w0 (w.setCells gz (k * 32) (u8s s)) := by
  have hp := ha.p
  have ho := ha.o
  have q : ∀ {g : Nat} {o : Obj}, g ≠ gz → w.heap[g]? = some o → (w.setCells gz (k * 32) (u8s s)).heap[g]? = some o := fun hne hg => (setCells_other hne _ _ _).trans hg
  exact ⟨q (by omega) h.seed, q (by omega) h.r2, q (by omega) h.r3, q (by omega) h.s, q (by omega) h.r, q (by omega) h.rk, srow_set hf h.rz hk hs, q (by omega) h.ro, below_setCells (by omega) _ _ _ h.bel⟩
theorem Dm.setO (h : Dm kl d0 d1 B gs gr gk gz go fk fz fo w0 w) (ha : Ap B gs gr gk gz go) (hf : ∀ i, (fo i).length = 32) {k : Nat} (hk : k < 128) {s : List Nat} (hs : s.length = 32) : Dm kl d0 d1 B gs gr gk gz go fk fz (upd fo k s) w0 (w.setCells go (k * 32) (u8s s)) := by
  have hp := ha.p
  have ho := ha.o
  have q : ∀ {g : Nat} {o : Obj}, g ≠ go → w.heap[g]? = some o → (w.setCells go (k * 32) (u8s s)).heap[g]? = some o := fun hne hg => (setCells_other hne _ _ _).trans hg
  exact ⟨q (by omega) h.seed, q (by omega) h.r2, q (by omega) h.r3, q (by omega) h.s, q (by omega) h.r, q (by omega) h.rk, q (by omega) h.rz, srow_set hf h.ro hk hs, below_setCells (by omega) _ _ _ h.bel⟩
theorem Dm.setK (h : Dm kl d0 d1 B gs gr gk gz go fk fz fo w0 w) (ha : Ap B gs gr gk gz go) (hf : ∀ i, (fk i).length = 32) {k : Nat} (hk : k < 128) {s : List Nat} (hs : s.length = 32) : Dm kl d0 d1 B gs gr gk gz go (upd fk k s) fz fo w0 (w.setCells gk (k * 32) (u8s s)) := by
  have hp := ha.p
  have ho := ha.o
  have q : ∀ {g : Nat} {o : Obj}, g ≠ gk → w.heap[g]? = some o → (w.setCells gk (k * 32) (u8s s)).heap[g]? = some o := fun hne hg => (setCells_other hne _ _ _).trans hg
  exact ⟨q (by omega) h.seed, q (by omega) h.r2, q (by omega) h.r3, q (by omega) h.s, q (by omega) h.r, srow_set hf h.rk hk hs, q (by omega) h.rz, q (by omega) h.ro, below_setCells (by omega) _ _ _ h.bel⟩
end

theorem agg2 {a b x y : Value} (h1 : x = a) (h2 : y = b) : Value.agg #[a, b] = .agg #[x, y] := by rw [h1, h2]
theorem ret_two {fn : Func} {p u : Tmp} (h : fn.results = #[.cell p 62, .cell u 64]) {R : Ending → World → Prop} {a : Act} {w : World} (g gu : Nat) (cs cu : Array Value) (hp : a.tmps.getD p undef = .pointer (some ⟨g, 0, none⟩)) (hu : a.tmps.getD u undef = .pointer (some ⟨gu, 0, none⟩))
    (hg : w.heap[g]? = some (.cells cs 62 (0, 0))) (hgu : w.heap[gu]? = some (.cells cu 64 (0, 0))) (hip : (Tryd.prog.info? 62).map (·.size) = some cs.size) (hiu : (Tryd.prog.info? 64).map (·.size) = some cu.size) (hd : a.defers = []) (hR : R (.returned (.tuple #[.agg cs, .agg cu])) w) : bodyPost Tryd.prog fn R .ret a w := by
  refine bodyPost_ret_by (v := .tuple #[.agg cs, .agg cu]) ?_ hd hR
  have hl := run_loadVar_row (P := Tryd.prog) w g _ 62 cs (0, 0) _ hg Tryd.underlying62 rfl hip
  have hl2 := run_loadVar_row (P := Tryd.prog) w gu _ 64 cu (0, 0) _ hgu Tryd.underlying64 rfl hiu
  have hp' : a.tmps[p]?.getD undef = .pointer (some ⟨g, 0, none⟩) := by simpa using hp
  have hu' : a.tmps[u]?.getD undef = .pointer (some ⟨gu, 0, none⟩) := by simpa using hu
  simp [results, h, hp', hu', asAddr, hl, hl2]

set_option maxHeartbeats 8000000 in
theorem direction_any (kl : List Nat) (w : World) (hk : kl.length = 32) (bk : Lt 256 kl) :
    Calls Tryd.prog 43 #[arr8 kl] w fun e w' => ∃ gk gz go, e = .returned (.tuple #[.agg #[.int .u64 (wd kl 9 0 : Nat), .int .u64 (wd kl 9 1 : Nat), .slice (some ⟨gk, 0, none⟩) 128 128], .agg #[.slice (some ⟨gz, 0, none⟩) 128 128, .slice (some ⟨go, 0, none⟩) 128 128]])
      ∧ w'.heap[gk]? = some (srow (dk kl) 128) ∧ w'.heap[gz]? = some (srow (dz kl) 128) ∧ w'.heap[go]? = some (srow (dn kl) 128) ∧ Below w.heap.size w w' := by
  have kd := fun w => hide1 (delta_any kl w hk bk)
  have kcc : Hid (∀ (y : Nat) (w : World), y < 18446744073709551616 → Calls Tryd.prog 42 #[.agg (u8s kl).toArray, .int .u64 (y : Int)] w fun e w' => e = .returned (.agg (u8s (childP kl y)).toArray) ∧ Below w.heap.size w w') := fun y w hy => child_any kl y w hk bk hy
  have kbb : Hid (∀ (i : Int) (w : World), Calls Tryd.prog 49 #[.agg #[.int .u64 (wd kl 9 0 : Nat), .int .u64 (wd kl 9 1 : Nat)], .int .i64 i] w fun e w' => e = .returned (.bool (bt (wd kl 9 0) (wd kl 9 1) i)) ∧ Below w.heap.size w w') := fun i w => bit_any _ _ i w (wd_lt _ _ _) (wd_lt _ _ _)
  have HDK : Shy (∀ i : Nat, (if bt (wd kl 9 0) (wd kl 9 1) (i : Int) then dn kl i else dz kl i) = dk kl i) := ⟨fun i => rfl⟩
  have HC0 : Shy (∀ i, childP kl (2 * i) = dz kl i) := ⟨fun i => rfl⟩
  have HC1 : Shy (∀ i, childP kl (2 * i + 1) = dn kl i) := ⟨fun i => rfl⟩
  have HLs : Shy ((∀ i, (dz kl i).length = 32) ∧ (∀ i, (dn kl i).length = 32) ∧ ∀ i, (dk kl i).length = 32) := ⟨⟨dz_len kl, dn_len kl, dk_len kl⟩⟩
  unfold rw2 at kd
  generalize wd kl 9 0 = d0 at *
  generalize wd kl 9 1 = d1 at *
  generalize dz kl = fz at *
  generalize dn kl = fo at *
  generalize dk kl = fk at *
  have hi := hi23 hk
  have hmk := make_seeds 128 (by decide)
  rw [show ((128 : Nat) : Int) = 128 from rfl] at hmk
  clear hk bk
  unfold arr8 at *
  go_enter Tryd.func43, Tryd.ntmps43
  go_upto_region 1 with (fail)
  generalize hX : World.alloc (World.alloc (World.alloc w _) _) _ = X
  obtain ⟨x0, x1, x2, xb, xs⟩ := three_at hX
  have X0 : Hid (X.heap[w.heap.size]? = some (row8 28 kl)) := x0
  have X1 := hide1 x1
  have X2 := hide1 x2
  have XB := hide1 xb
  have XS := hide1 xs
  clear hX x0 x1 x2 xb xs
  refine region_f (F := []) (S := fun w' => Below X.heap.size X w') (by kernel_rfl) ((Below.refl _ _).drew) (fun hS => ?_)
  refine take_f 0 7 (.agg (u8s kl).toArray) [1, 3, 5] rfl rfl (by kernel_rfl) (by kernel_rfl) (by kernel_rfl) (by kernel_rfl) (by kernel_rfl) (by kernel_rfl) (fun _ _ _ h => h) rfl (fun w hSw => by exact exec_load_row 28 (.tmp 1) rfl _ rfl 28 _ _ _ ((hSw.block _ (lt_heap X0.out)).trans X0.out) Tryd.underlying28 hi) hS ?_
  try simp only [List.setIfInBounds_toArray, List.set_cons_zero, List.set_cons_succ]
  refine makers [(1, 8), (2, 9), (3, 10), (4, 4)] [5] 1 (preOf [(1, Tl (.agg #[.int .u64 (d0 : Int), .int .u64 (d1 : Int)])), (2, Ns (srow (fun _ => zeros 32) 128) 128 128), (3, Of (fun us => .agg #[.int .u64 (d0 : Int), .int .u64 (d1 : Int), us 2])), (4, Nb (.cells #[.int .u64 0, .int .u64 0, .slice none 0 0] 62 (0, 0)))]) (by kernel_rfl) rfl (fun _ h => hS.trans h) (preOf_stays ⟨tl_stays _, ns_stays _ _ _, of_stays (fun us us' h => by rw [h 2 (by kernel_rfl)]), nb_stays _, trivial⟩) ?_ ?_
  · refine ⟨⟨{ dst := some 8, op := Op.call { callee := Callee.value (Operand.func 61), args := #[Operand.tmp 7], argTypes := #[28] }, type := 24, pos := "baseot.go:64", after := #[{ on := 0, ground := Ground.data }], guard := none }, rfl, fun us lo hi V hV hP hD K hK => ?_⟩, ⟨⟨{ dst := some 9, op := Op.makeSlice 36 (Operand.const (Value.int IntKind.i64 128)) (Operand.const (Value.int IntKind.i64 128)), type := 36, pos := "baseot.go:64", after := #[], guard := none }, rfl, fun us lo hi V hV hP hD K hK => ?_⟩, ⟨⟨{ dst := some 10, op := Op.build 62 #[(0, Operand.tmp 8), (1, Operand.tmp 9)], type := 62, pos := "baseot.go:64", after := #[{ on := 1, ground := Ground.data }, { on := 2, ground := Ground.data }], guard := none }, rfl, fun us lo hi V hV hP hD K hK => ?_⟩, ⟨⟨{ dst := some 4, op := Op.alloc 62, type := 0, pos := "baseot.go:64", after := #[], guard := none }, rfl, fun us lo hi V hV hP hD K hK => ?_⟩, trivial⟩⟩⟩⟩
    · simp only [fill_cons, fill_nil, List.setIfInBounds_toArray, List.set_cons_zero, List.set_cons_succ]
      go_simp
      refine (kd _).out.mono ?_
      rintro e V1 ⟨rfl, hb⟩
      exact hK.out _ _ hb rfl
    · simp only [fill_cons, fill_nil, List.setIfInBounds_toArray, List.set_cons_zero, List.set_cons_succ]
      go_simp
      exact hK.out _ _ (below_new _ _) (ns_new _ _ _ _ us)
    · simp only [fill_cons, fill_nil, List.setIfInBounds_toArray, List.set_cons_zero, List.set_cons_succ]
      have p1 := (hP 1 (by kernel_rfl) (by decide)).pre
      have p2 := (hP 2 (by kernel_rfl) (by decide)).pre
      obtain ⟨e2, _, _⟩ : Ns (srow (fun _ => zeros 32) 128) 128 128 us (us 2) (lo 2) (hi 2) V := p2
      have e1 : us 1 = .agg #[.int .u64 (d0 : Int), .int .u64 (d1 : Int)] := p1
      simp only [fill_cons, fill_nil, List.setIfInBounds_toArray, List.set_cons_zero, List.set_cons_succ] at hK
      rw [e1, e2] at hK ⊢
      go_simp
      exact hK.out _ _ (Below.refl _ _) (congrArg (fun z => Value.agg #[.int .u64 (d0 : Int), .int .u64 (d1 : Int), z]) e2.symm)
    · simp only [fill_cons, fill_nil, List.setIfInBounds_toArray, List.set_cons_zero, List.set_cons_succ]
      go_simp
      exact hK.out _ _ (below_new _ _) (nb_new _ _ us)
  intro us lo hi' V hV hI hD
  obtain ⟨m2, l2, r2⟩ : Ns (srow (fun _ => zeros 32) 128) 128 128 us (us 2) (lo 2) (hi' 2) V := (hI 2 (by decide)).pre
  have m1 : us 1 = .agg #[.int .u64 (d0 : Int), .int .u64 (d1 : Int)] := (hI 1 (by decide)).pre
  have m3 : us 3 = .agg #[.int .u64 (d0 : Int), .int .u64 (d1 : Int), us 2] := (hI 3 (by decide)).pre
  obtain ⟨m4, l4, r4⟩ : Nb (.cells #[.int .u64 0, .int .u64 0, .slice none 0 0] 62 (0, 0)) us (us 4) (lo 4) (hi' 4) V := (hI 4 (by decide)).pre
  have b2 := (hI 2 (by decide)).base
  have b4 := (hI 4 (by decide)).base
  have dj := hD 2 (by decide) 4 (by decide) (by decide)
  have hne : lo 2 ≠ lo 4 := by omega
  rw [show X.drew.heap.size = X.heap.size from rfl] at b2 b4
  simp only [fill_cons, fill_nil, List.setIfInBounds_toArray, List.set_cons_zero, List.set_cons_succ]
  rw [m3, m1, m2, m4]
  generalize lo 2 = gk at *
  generalize lo 4 = gs at *
  have HV := hS.trans hV
  clear m1 m2 m3 m4 hI hD dj l2 l4 hV hS us hi' lo
  refine ready_f 5 (o := { dst := none, op := Op.store 62 (Operand.tmp 4) (Operand.tmp 10), type := 0, pos := "baseot.go:64", after := #[{ on := 4, ground := Ground.data }, { on := 3, ground := Ground.data }, { on := 1, ground := Ground.chain }, { on := 0, ground := Ground.phase }, { on := 1, ground := Ground.phase }, { on := 2, ground := Ground.phase }, { on := 3, ground := Ground.phase }, { on := 4, ground := Ground.phase }], guard := none }) (by kernel_rfl) rfl (fun K hK => ?_)
  rw [if_pos (by rfl)]
  refine wp_store_row 62 _ _ rfl gs _ rfl rfl 62 _ r4 (by kernel_rfl) (by simp) (by simp [Value.oneCell']) ?_
  refine hK.out _ _ (fun _ h => Below.setRow' h b4 _) ?_
  clear hK K
  refine done_f (by kernel_rfl) ?_ _
  have hs4 := setRow_heap V gs _ #[.int .u64 (d0 : Int), .int .u64 (d1 : Int), .slice (some ⟨gk, 0, none⟩) 128 128] _ _ r4
  have hs2 := (setRow_other V gs gk #[.int .u64 (d0 : Int), .int .u64 (d1 : Int), .slice (some ⟨gk, 0, none⟩) 128 128] hne).trans r2
  have hsB := Below.setRow' HV b4 #[.int .u64 (d0 : Int), .int .u64 (d1 : Int), .slice (some ⟨gk, 0, none⟩) 128 128]
  generalize World.setRow V _ _ = Y at *
  have G2 := hide1 hs2
  have G4 := hide1 hs4
  have GB := hide1 hsB
  have GA : Shy (gk ≠ gs ∧ X.heap.size ≤ gk ∧ X.heap.size ≤ gs) := ⟨⟨hne, b2, b4⟩⟩
  clear hs4 hs2 hsB hne b2 b4 r2 r4 HV V
  go_upto_region 2 with (fail)
  refine region_f (F := []) (S := fun w' => Below Y.heap.size Y w') (by kernel_rfl) ((Below.refl _ _).drew) (fun hS => ?_)
  refine makers [(0, 11), (1, 12), (2, 13), (3, 5)] [4] 1 (preOf [(0, Ns (srow (fun _ => zeros 32) 128) 128 128), (1, Ns (srow (fun _ => zeros 32) 128) 128 128), (2, Of (fun us => .agg #[us 0, us 1])), (3, Nb (.cells #[.slice none 0 0, .slice none 0 0] 64 (0, 0)))]) (by kernel_rfl) rfl (fun _ h => hS.trans h) (preOf_stays ⟨ns_stays _ _ _, ns_stays _ _ _, of_stays (fun us us' h => by rw [h 0 (by kernel_rfl), h 1 (by kernel_rfl)]), nb_stays _, trivial⟩) ?_ ?_
  · refine ⟨⟨{ dst := some 11, op := Op.makeSlice 36 (Operand.const (Value.int IntKind.i64 128)) (Operand.const (Value.int IntKind.i64 128)), type := 36, pos := "baseot.go:65", after := #[], guard := none }, rfl, fun us lo hi V hV hP hD K hK => ?_⟩, ⟨⟨{ dst := some 12, op := Op.makeSlice 36 (Operand.const (Value.int IntKind.i64 128)) (Operand.const (Value.int IntKind.i64 128)), type := 36, pos := "baseot.go:65", after := #[], guard := none }, rfl, fun us lo hi V hV hP hD K hK => ?_⟩, ⟨⟨{ dst := some 13, op := Op.build 64 #[(0, Operand.tmp 11), (1, Operand.tmp 12)], type := 64, pos := "baseot.go:65", after := #[{ on := 0, ground := Ground.data }, { on := 1, ground := Ground.data }], guard := none }, rfl, fun us lo hi V hV hP hD K hK => ?_⟩, ⟨⟨{ dst := some 5, op := Op.alloc 64, type := 0, pos := "baseot.go:65", after := #[], guard := none }, rfl, fun us lo hi V hV hP hD K hK => ?_⟩, trivial⟩⟩⟩⟩
    · simp only [fill_cons, fill_nil, List.setIfInBounds_toArray, List.set_cons_zero, List.set_cons_succ]
      go_simp
      exact hK.out _ _ (below_new _ _) (ns_new _ _ _ _ us)
    · simp only [fill_cons, fill_nil, List.setIfInBounds_toArray, List.set_cons_zero, List.set_cons_succ]
      go_simp
      exact hK.out _ _ (below_new _ _) (ns_new _ _ _ _ us)
    · simp only [fill_cons, fill_nil, List.setIfInBounds_toArray, List.set_cons_zero, List.set_cons_succ]
      have p0 := (hP 0 (by kernel_rfl) (by decide)).pre
      have p1 := (hP 1 (by kernel_rfl) (by decide)).pre
      obtain ⟨e0, _, _⟩ : Ns (srow (fun _ => zeros 32) 128) 128 128 us (us 0) (lo 0) (hi 0) V := p0
      obtain ⟨e1, _, _⟩ : Ns (srow (fun _ => zeros 32) 128) 128 128 us (us 1) (lo 1) (hi 1) V := p1
      simp only [fill_cons, fill_nil, List.setIfInBounds_toArray, List.set_cons_zero, List.set_cons_succ] at hK
      rw [e0, e1] at hK ⊢
      go_simp
      exact hK.out _ _ (Below.refl _ _) (agg2 e0 e1)
    · simp only [fill_cons, fill_nil, List.setIfInBounds_toArray, List.set_cons_zero, List.set_cons_succ]
      go_simp
      exact hK.out _ _ (below_new _ _) (nb_new _ _ us)
  intro us lo hi' V hV hI hD
  obtain ⟨m0, l0, r0⟩ : Ns (srow (fun _ => zeros 32) 128) 128 128 us (us 0) (lo 0) (hi' 0) V := (hI 0 (by decide)).pre
  obtain ⟨m1, l1, r1⟩ : Ns (srow (fun _ => zeros 32) 128) 128 128 us (us 1) (lo 1) (hi' 1) V := (hI 1 (by decide)).pre
  have m2 : us 2 = .agg #[us 0, us 1] := (hI 2 (by decide)).pre
  obtain ⟨m3, l3, r3⟩ : Nb (.cells #[.slice none 0 0, .slice none 0 0] 64 (0, 0)) us (us 3) (lo 3) (hi' 3) V := (hI 3 (by decide)).pre
  have b0 := (hI 0 (by decide)).base
  have b1 := (hI 1 (by decide)).base
  have b3 := (hI 3 (by decide)).base
  have dj1 := hD 0 (by decide) 1 (by decide) (by decide)
  have dj2 := hD 0 (by decide) 3 (by decide) (by decide)
  have dj3 := hD 1 (by decide) 3 (by decide) (by decide)
  have hne : lo 0 ≠ lo 1 ∧ lo 0 ≠ lo 3 ∧ lo 1 ≠ lo 3 := ⟨by omega, by omega, by omega⟩
  rw [show Y.drew.heap.size = Y.heap.size from rfl] at b0 b1 b3
  simp only [fill_cons, fill_nil, List.setIfInBounds_toArray, List.set_cons_zero, List.set_cons_succ]
  rw [m2, m0, m1, m3]
  generalize lo 0 = gz at *
  generalize lo 1 = go at *
  generalize lo 3 = gr at *
  have HV := hS.trans hV
  clear m0 m1 m2 m3 hI hD dj1 dj2 dj3 l0 l1 l3 hV hS us hi' lo
  refine ready_f 4 (o := { dst := none, op := Op.store 64 (Operand.tmp 5) (Operand.tmp 13), type := 0, pos := "baseot.go:65", after := #[{ on := 3, ground := Ground.data }, { on := 2, ground := Ground.data }, { on := 0, ground := Ground.phase }, { on := 1, ground := Ground.phase }, { on := 2, ground := Ground.phase }, { on := 3, ground := Ground.phase }], guard := none }) (by kernel_rfl) rfl (fun K hK => ?_)
  rw [if_pos (by rfl)]
  refine wp_store_row 64 _ _ rfl gr _ rfl rfl 64 _ r3 (by kernel_rfl) (by simp) (by simp [Value.oneCell']) ?_
  refine hK.out _ _ (fun _ h => Below.setRow' h b3 _) ?_
  clear hK K
  refine done_f (by kernel_rfl) ?_ _
  have hy := HV
  have hs3 := setRow_heap V gr _ #[.slice (some ⟨gz, 0, none⟩) 128 128, .slice (some ⟨go, 0, none⟩) 128 128] _ _ r3
  have hs0 := (setRow_other V gr gz #[.slice (some ⟨gz, 0, none⟩) 128 128, .slice (some ⟨go, 0, none⟩) 128 128] hne.2.1).trans r0
  have hs1 := (setRow_other V gr go #[.slice (some ⟨gz, 0, none⟩) 128 128, .slice (some ⟨go, 0, none⟩) 128 128] hne.2.2).trans r1
  have hsB := Below.setRow' HV b3 #[.slice (some ⟨gz, 0, none⟩) 128 128, .slice (some ⟨go, 0, none⟩) 128 128]
  generalize World.setRow V _ _ = Z at *
  have lX := GB.out.size
  have lk := lt_heap G2.out
  have ls := lt_heap G4.out
  have HAp : Shy (Ap w.heap.size gs gr gk gz go) := ⟨by
    have h1 := GA.out
    have h2 := XS.out
    exact ⟨by omega, by omega⟩⟩
  have hD0 : Dm kl d0 d1 w.heap.size gs gr gk gz go (pf fk 0) (pf fz 0) (pf fo 0) w Z := by
    rw [pf_none, pf_none, pf_none]
    have q : ∀ {g : Nat} {o : Obj}, Y.heap[g]? = some o → Z.heap[g]? = some o := fun hg => (hsB.block _ (lt_heap hg)).trans hg
    have q2 : ∀ {g : Nat} {o : Obj}, X.heap[g]? = some o → Z.heap[g]? = some o := fun hg => q ((GB.out.block _ (lt_heap hg)).trans hg)
    exact ⟨q2 X0.out, q2 X1.out, q2 X2.out, q G4.out, hs3, q G2.out, hs0, hs1, XB.out.trans ((GB.out.mono (Nat.le_of_lt (lt_heap X0.out))).trans (hsB.mono (Nat.le_trans (Nat.le_of_lt (lt_heap X0.out)) lX)))⟩
  have HD0 := hide1 hD0
  have HO : Shy (w.heap.size + 2 < gs ∧ w.heap.size + 2 < gr) := ⟨⟨HAp.out.o.1, HAp.out.o.2.1⟩⟩
  clear hs3 hs0 hs1 hsB hD0 lX lk ls hy HV r0 r1 r3 b0 b1 b3 hne V X0 X1 X2 XB XS G2 G4 GB GA kd
  go_wp2
  go_loopw [14] (fun v wr => ∃ k : Nat, k ≤ 128 ∧ v = .int .i64 k ∧ Dm kl d0 d1 w.heap.size gs gr gk gz go (pf fk k) (pf fz k) (pf fo k) w wr) (fun v _ => 128 - (intOf v).toNat)
  case atStart => exact ⟨0, Nat.zero_le _, rfl, HD0.out⟩
  case round =>
    obtain ⟨k, hk, rfl, hdm⟩ := hrel
    by_cases hlt : k < 128
    · have bk : (k : Int) < 128 := by omega
      have HK : Shy (k < 128) := ⟨hlt⟩
      obtain ⟨y0, hy0⟩ : ∃ y, y = 2 * k := ⟨_, rfl⟩
      obtain ⟨y1, hy1⟩ : ∃ y, y = 2 * k + 1 := ⟨_, rfl⟩
      have e0 : 2 * (k : Int) = (y0 : Int) := by omega
      have e1 : (y0 : Int) + 1 = (y1 : Int) := by omega
      have b0 : (y0 : Int) < 300 := by omega
      have b1 : (y1 : Int) < 300 := by omega
      have q0 : IntKind.i64.wrap (y0 : Int) = (y0 : Int) := by rw [IntKind.wrap_i64]; omega
      have q1 : IntKind.i64.wrap (y1 : Int) = (y1 : Int) := by rw [IntKind.wrap_i64]; omega
      have q2 : IntKind.u64.wrap (y0 : Int) = (y0 : Int) := by rw [IntKind.wrap_u64]; omega
      have q3 : IntKind.u64.wrap (y1 : Int) = (y1 : Int) := by rw [IntKind.wrap_u64]; omega
      have hc0 := fun w => kcc.out y0 w (by omega)
      have hc1 := fun w => kcc.out y1 w (by omega)
      rw [hy0, HC0.out, ← hy0] at hc0
      rw [hy1, HC1.out, ← hy1] at hc1
      have KC0 := hide1 hc0
      have KC1 := hide1 hc1
      obtain ⟨Z1, hZ⟩ : ∃ Z1, Z1 = wr := ⟨_, rfl⟩
      subst hZ
      have HDM := hide1 hdm
      clear hc0 hc1 hy0 hy1 hdm HD0 Z
      obtain ⟨Z, hZ⟩ : ∃ Z, Z = Z1 := ⟨_, rfl⟩
      subst hZ
      have DB : Hid (∀ w', Below Z.heap.size Z w' → Dm kl d0 d1 w.heap.size gs gr gk gz go (pf fk k) (pf fz k) (pf fo k) w w') := fun w' h => HDM.out.to h
      obtain ⟨s, hs⟩ : ∃ s, s = fz k := ⟨_, rfl⟩
      have hsl : s.length = 32 := by rw [hs]; exact HLs.out.1 k
      have kc := fun w => hide1 (KC0.out w)
      rw [← hs] at kc
      have HSZ : Shy ((u8s s).toArray.size = 32) := ⟨by simp [u8s, hsl]⟩
      have HSI := hide1 (hi23 hsl)
      have HFL : Shy (∀ i, (pf fz k i).length = 32) := ⟨pf_len HLs.out.1 k⟩
      have HS : Shy (s = fz k ∧ s.length = 32) := ⟨⟨hs, hsl⟩⟩
      clear hs hsl
      go_upto_region 6 with (fail)
      refine region_f (F := [9]) (S := fun w' => Below Z.heap.size Z w') (by kernel_rfl) ((Below.refl _ _).drew) (fun hS => ?_)
      refine take_p 0 17 (.pointer (some ⟨gr, 0, none⟩)) rfl rfl (by kernel_rfl) (by kernel_rfl) (by kernel_rfl) (fun _ _ _ h => h) rfl (fun w => by go_simp) ?_
      try simp only [List.setIfInBounds_toArray, List.set_cons_zero, List.set_cons_succ]
      refine take_f 1 18 (.slice (some ⟨gz, 0, none⟩) 128 128) [8, 9] rfl rfl (by kernel_rfl) (by kernel_rfl) (by kernel_rfl) (by kernel_rfl) (by kernel_rfl) (by kernel_rfl) (fun _ _ _ h => h) rfl (fun w hSw => by have c0 := (DB.out _ hSw).cz; go_simp) hS ?_
      try simp only [List.setIfInBounds_toArray, List.set_cons_zero, List.set_cons_succ]
      refine take_p 2 19 (.int .i64 (k : Int)) rfl rfl (by kernel_rfl) (by kernel_rfl) (by kernel_rfl) (fun _ _ _ h => h) rfl (fun w => by go_simp) ?_
      try simp only [List.setIfInBounds_toArray, List.set_cons_zero, List.set_cons_succ]
      refine take_f 3 20 (.agg (u8s kl).toArray) [7, 8, 9] rfl rfl (by kernel_rfl) (by kernel_rfl) (by kernel_rfl) (by kernel_rfl) (by kernel_rfl) (by kernel_rfl) (fun _ _ _ h => h) rfl (fun w hSw => by exact exec_load_row 28 (.tmp 1) rfl _ rfl 28 _ _ _ (DB.out _ hSw).seed Tryd.underlying28 hi) hS ?_
      try simp only [List.setIfInBounds_toArray, List.set_cons_zero, List.set_cons_succ]
      refine take_p 4 21 (.int .i64 (k : Int)) rfl rfl (by kernel_rfl) (by kernel_rfl) (by kernel_rfl) (fun _ _ _ h => h) rfl (fun w => by go_simp) ?_
      try simp only [List.setIfInBounds_toArray, List.set_cons_zero, List.set_cons_succ]
      refine take_p 5 22 (.int .i64 (y0 : Int)) rfl rfl (by kernel_rfl) (by kernel_rfl) (by kernel_rfl) (fun _ _ _ h => h) rfl (fun w => by go_simp) ?_
      try simp only [List.setIfInBounds_toArray, List.set_cons_zero, List.set_cons_succ]
      refine take_p 6 23 (.int .u64 (y0 : Int)) rfl rfl (by kernel_rfl) (by kernel_rfl) (by kernel_rfl) (fun _ _ _ h => h) rfl (fun w => by go_simp) ?_
      try simp only [List.setIfInBounds_toArray, List.set_cons_zero, List.set_cons_succ]
      refine ready_f 7 (o := { dst := some 24, op := Op.call { callee := Callee.value (Operand.func 42), args := #[Operand.tmp 20, Operand.tmp 23], argTypes := #[28, 22] }, type := 28, pos := "baseot.go:67", after := #[{ on := 3, ground := Ground.data }, { on := 6, ground := Ground.data }], guard := none }) (by kernel_rfl) rfl (fun K hK => ?_)
      go_simp
      refine (kc _).out.mono ?_
      rintro e w1 ⟨rfl, hb1⟩
      have hS1 := hS.trans (hb1.mono hS.size)
      refine hK.out _ _ (fun _ _ => hS1) ?_
      clear hK K
      try simp only [Act.put, List.setIfInBounds_toArray, List.set_cons_zero, List.set_cons_succ]
      clear hb1 hS
      refine take_p 8 25 (.pointer (some ⟨gz, k * 32, none⟩)) rfl rfl (by kernel_rfl) (by kernel_rfl) (by kernel_rfl) (fun _ _ _ h => h) rfl (fun w => by go_simp) ?_
      try simp only [List.setIfInBounds_toArray, List.set_cons_zero, List.set_cons_succ]
      have HTH : Hid (w1.there gz (k * 32) (u8s s).toArray.size) := by show w1.there gz (k * 32) (u8s s).toArray.size; rw [HSZ.out]; exact srow_there HFL.out (DB.out _ hS1).rz HK.out
      refine ready_f 9 (o := { dst := none, op := Op.store 28 (Operand.tmp 25) (Operand.tmp 24), type := 0, pos := "baseot.go:67", after := #[{ on := 8, ground := Ground.data }, { on := 7, ground := Ground.data }, { on := 7, ground := Ground.chain }, { on := 0, ground := Ground.phase }, { on := 1, ground := Ground.phase }, { on := 2, ground := Ground.phase }, { on := 3, ground := Ground.phase }, { on := 4, ground := Ground.phase }, { on := 5, ground := Ground.phase }, { on := 6, ground := Ground.phase }, { on := 7, ground := Ground.phase }], guard := none }) (by kernel_rfl) rfl (fun K hK => ?_)
      rw [if_pos (by rfl)]
      refine wp_store_mid 28 _ _ rfl gz (k * 32) (u8s s).toArray rfl rfl HTH.out HSI.out (all_one (u8s_one _)) ?_
      refine hK.out _ _ (fun h => absurd (by decide) h) ?_
      clear hK K
      refine done_f (by kernel_rfl) ?_ _
      have hdm := (DB.out _ hS1).setZ HAp.out HFL.out HK.out HS.out.2
      rw [HS.out.1, pf_upd, ← HS.out.1] at hdm
      clear HTH hS1 kc
      generalize hZ9 : World.setCells w1 gz (k * 32) _ = Z9
      have hdm' : Dm kl d0 d1 w.heap.size gs gr gk gz go (pf fk k) (pf fz (k + 1)) (pf fo k) w Z9 := by rw [← hZ9]; exact hdm
      have HDM2 := hide1 hdm'
      clear hdm hdm' hZ9 w1 DB HDM HFL HSI HSZ HS Z
      obtain ⟨Z, hZ⟩ : ∃ Z, Z = Z9 := ⟨_, rfl⟩
      subst hZ
      have DB : Hid (∀ w', Below Z.heap.size Z w' → Dm kl d0 d1 w.heap.size gs gr gk gz go (pf fk k) (pf fz (k + 1)) (pf fo k) w w') := fun w' h => HDM2.out.to h
      obtain ⟨s, hs⟩ : ∃ s, s = fo k := ⟨_, rfl⟩
      have hsl : s.length = 32 := by rw [hs]; exact HLs.out.2.1 k
      have kc := fun w => hide1 (KC1.out w)
      rw [← hs] at kc
      have HSZ : Shy ((u8s s).toArray.size = 32) := ⟨by simp [u8s, hsl]⟩
      have HSI := hide1 (hi23 hsl)
      have HFL : Shy (∀ i, (pf fo k i).length = 32) := ⟨pf_len HLs.out.2.1 k⟩
      have HS : Shy (s = fo k ∧ s.length = 32) := ⟨⟨hs, hsl⟩⟩
      clear hs hsl
      go_upto_region 7 with (fail)
      refine region_f (F := [10]) (S := fun w' => Below Z.heap.size Z w') (by kernel_rfl) ((Below.refl _ _).drew) (fun hS => ?_)
      refine take_p 0 26 (.pointer (some ⟨gr, 1, none⟩)) rfl rfl (by kernel_rfl) (by kernel_rfl) (by kernel_rfl) (fun _ _ _ h => h) rfl (fun w => by go_simp) ?_
      try simp only [List.setIfInBounds_toArray, List.set_cons_zero, List.set_cons_succ]
      refine take_f 1 27 (.slice (some ⟨go, 0, none⟩) 128 128) [9, 10] rfl rfl (by kernel_rfl) (by kernel_rfl) (by kernel_rfl) (by kernel_rfl) (by kernel_rfl) (by kernel_rfl) (fun _ _ _ h => h) rfl (fun w hSw => by have c0 := (DB.out _ hSw).co; go_simp) hS ?_
      try simp only [List.setIfInBounds_toArray, List.set_cons_zero, List.set_cons_succ]
      refine take_p 2 28 (.int .i64 (k : Int)) rfl rfl (by kernel_rfl) (by kernel_rfl) (by kernel_rfl) (fun _ _ _ h => h) rfl (fun w => by go_simp) ?_
      try simp only [List.setIfInBounds_toArray, List.set_cons_zero, List.set_cons_succ]
      refine take_f 3 29 (.agg (u8s kl).toArray) [8, 9, 10] rfl rfl (by kernel_rfl) (by kernel_rfl) (by kernel_rfl) (by kernel_rfl) (by kernel_rfl) (by kernel_rfl) (fun _ _ _ h => h) rfl (fun w hSw => by exact exec_load_row 28 (.tmp 1) rfl _ rfl 28 _ _ _ (DB.out _ hSw).seed Tryd.underlying28 hi) hS ?_
      try simp only [List.setIfInBounds_toArray, List.set_cons_zero, List.set_cons_succ]
      refine take_p 4 30 (.int .i64 (k : Int)) rfl rfl (by kernel_rfl) (by kernel_rfl) (by kernel_rfl) (fun _ _ _ h => h) rfl (fun w => by go_simp) ?_
      try simp only [List.setIfInBounds_toArray, List.set_cons_zero, List.set_cons_succ]
      refine take_p 5 31 (.int .i64 (y0 : Int)) rfl rfl (by kernel_rfl) (by kernel_rfl) (by kernel_rfl) (fun _ _ _ h => h) rfl (fun w => by go_simp) ?_
      try simp only [List.setIfInBounds_toArray, List.set_cons_zero, List.set_cons_succ]
      refine take_p 6 32 (.int .i64 (y1 : Int)) rfl rfl (by kernel_rfl) (by kernel_rfl) (by kernel_rfl) (fun _ _ _ h => h) rfl (fun w => by go_simp) ?_
      try simp only [List.setIfInBounds_toArray, List.set_cons_zero, List.set_cons_succ]
      refine take_p 7 33 (.int .u64 (y1 : Int)) rfl rfl (by kernel_rfl) (by kernel_rfl) (by kernel_rfl) (fun _ _ _ h => h) rfl (fun w => by go_simp) ?_
      try simp only [List.setIfInBounds_toArray, List.set_cons_zero, List.set_cons_succ]
      refine ready_f 8 (o := { dst := some 34, op := Op.call { callee := Callee.value (Operand.func 42), args := #[Operand.tmp 29, Operand.tmp 33], argTypes := #[28, 22] }, type := 28, pos := "baseot.go:68", after := #[{ on := 3, ground := Ground.data }, { on := 7, ground := Ground.data }], guard := none }) (by kernel_rfl) rfl (fun K hK => ?_)
      go_simp
      refine (kc _).out.mono ?_
      rintro e w1 ⟨rfl, hb1⟩
      have hS1 := hS.trans (hb1.mono hS.size)
      refine hK.out _ _ (fun _ _ => hS1) ?_
      clear hK K
      try simp only [Act.put, List.setIfInBounds_toArray, List.set_cons_zero, List.set_cons_succ]
      clear hb1 hS
      refine take_p 9 35 (.pointer (some ⟨go, k * 32, none⟩)) rfl rfl (by kernel_rfl) (by kernel_rfl) (by kernel_rfl) (fun _ _ _ h => h) rfl (fun w => by go_simp) ?_
      try simp only [List.setIfInBounds_toArray, List.set_cons_zero, List.set_cons_succ]
      have HTH : Hid (w1.there go (k * 32) (u8s s).toArray.size) := by show w1.there go (k * 32) (u8s s).toArray.size; rw [HSZ.out]; exact srow_there HFL.out (DB.out _ hS1).ro HK.out
      refine ready_f 10 (o := { dst := none, op := Op.store 28 (Operand.tmp 35) (Operand.tmp 34), type := 0, pos := "baseot.go:68", after := #[{ on := 9, ground := Ground.data }, { on := 8, ground := Ground.data }, { on := 8, ground := Ground.chain }, { on := 0, ground := Ground.phase }, { on := 1, ground := Ground.phase }, { on := 2, ground := Ground.phase }, { on := 3, ground := Ground.phase }, { on := 4, ground := Ground.phase }, { on := 5, ground := Ground.phase }, { on := 6, ground := Ground.phase }, { on := 7, ground := Ground.phase }, { on := 8, ground := Ground.phase }], guard := none }) (by kernel_rfl) rfl (fun K hK => ?_)
      rw [if_pos (by rfl)]
      refine wp_store_mid 28 _ _ rfl go (k * 32) (u8s s).toArray rfl rfl HTH.out HSI.out (all_one (u8s_one _)) ?_
      refine hK.out _ _ (fun h => absurd (by decide) h) ?_
      clear hK K
      refine done_f (by kernel_rfl) ?_ _
      have hdm := (DB.out _ hS1).setO HAp.out HFL.out HK.out HS.out.2
      rw [HS.out.1, pf_upd, ← HS.out.1] at hdm
      clear HTH hS1 kc
      generalize hZ9 : World.setCells w1 go (k * 32) _ = Z9
      have hdm' : Dm kl d0 d1 w.heap.size gs gr gk gz go (pf fk k) (pf fz (k + 1)) (pf fo (k + 1)) w Z9 := by rw [← hZ9]; exact hdm
      have HDM3 := hide1 hdm'
      clear hdm hdm' hZ9 w1 DB HDM2 HFL HSI HSZ HS Z
      obtain ⟨Z, hZ⟩ : ∃ Z, Z = Z9 := ⟨_, rfl⟩
      subst hZ
      have DB : Hid (∀ w', Below Z.heap.size Z w' → Dm kl d0 d1 w.heap.size gs gr gk gz go (pf fk k) (pf fz (k + 1)) (pf fo (k + 1)) w w') := fun w' h => HDM3.out.to h
      have HRZ : Hid (∀ w', Below Z.heap.size Z w' → w'.rangeAt gz (k * 32) (u8s (fz k))) := fun w' h => by
        have hr := srow_range (pf_len HLs.out.1 (k + 1)) (HDM3.out.to h).rz HK.out
        rw [pf_at] at hr
        exact hr
      have HRO : Hid (∀ w', Below Z.heap.size Z w' → w'.rangeAt go (k * 32) (u8s (fo k))) := fun w' h => by
        have hr := srow_range (pf_len HLs.out.2.1 (k + 1)) (HDM3.out.to h).ro HK.out
        rw [pf_at] at hr
        exact hr
      have hch := fun w => chosen_any (bt d0 d1 (k : Int)) (fz k) (fo k) w (HLs.out.1 k) (HLs.out.2.1 k)
      rw [HDK.out k] at hch
      have HIsz := hide1 (hi23' (HLs.out.1 k))
      have HIso := hide1 (hi23' (HLs.out.2.1 k))
      have kb := fun w => hide1 (kbb.out (k : Int) w)
      generalize fz k = sz at *
      generalize fo k = so at *
      generalize bt d0 d1 (k : Int) = bb at *
      obtain ⟨s, hs⟩ : ∃ s, s = fk k := ⟨_, rfl⟩
      rw [← hs] at hch
      have kh := fun w => hide1 (hch w)
      unfold arr8 at kh
      have hsl : s.length = 32 := by rw [hs]; exact HLs.out.2.2 k
      have HSZ : Shy ((u8s s).toArray.size = 32) := ⟨by simp [u8s, hsl]⟩
      have HSI := hide1 (hi23 hsl)
      have HFL : Shy (∀ i, (pf fk k i).length = 32) := ⟨pf_len HLs.out.2.2 k⟩
      have HS : Shy (s = fk k ∧ s.length = 32) := ⟨⟨hs, hsl⟩⟩
      clear hs hsl hch
      go_upto_region 8 with (fail)
      refine region_f (F := [19]) (S := fun w' => Below Z.heap.size Z w') (by kernel_rfl) ((Below.refl _ _).drew) (fun hS => ?_)
      refine take_p 0 36 (.pointer (some ⟨gs, 2, none⟩)) rfl rfl (by kernel_rfl) (by kernel_rfl) (by kernel_rfl) (fun _ _ _ h => h) rfl (fun w => by go_simp) ?_
      try simp only [List.setIfInBounds_toArray, List.set_cons_zero, List.set_cons_succ]
      refine take_f 1 37 (.slice (some ⟨gk, 0, none⟩) 128 128) [18, 19] rfl rfl (by kernel_rfl) (by kernel_rfl) (by kernel_rfl) (by kernel_rfl) (by kernel_rfl) (by kernel_rfl) (fun _ _ _ h => h) rfl (fun w hSw => by have c0 := (DB.out _ hSw).ck; go_simp) hS ?_
      try simp only [List.setIfInBounds_toArray, List.set_cons_zero, List.set_cons_succ]
      refine take_p 2 38 (.int .i64 (k : Int)) rfl rfl (by kernel_rfl) (by kernel_rfl) (by kernel_rfl) (fun _ _ _ h => h) rfl (fun w => by go_simp) ?_
      try simp only [List.setIfInBounds_toArray, List.set_cons_zero, List.set_cons_succ]
      refine take_p 3 39 (.pointer (some ⟨gs, 0, none⟩)) rfl rfl (by kernel_rfl) (by kernel_rfl) (by kernel_rfl) (fun _ _ _ h => h) rfl (fun w => by go_simp) ?_
      try simp only [List.setIfInBounds_toArray, List.set_cons_zero, List.set_cons_succ]
      refine take_f 4 40 (.agg #[.int .u64 (d0 : Int), .int .u64 (d1 : Int)]) [6, 17, 18, 19] rfl rfl (by kernel_rfl) (by kernel_rfl) (by kernel_rfl) (by kernel_rfl) (by kernel_rfl) (by kernel_rfl) (fun _ _ _ h => h) rfl (fun w hSw => by exact exec_load_mid 24 (.tmp 39) rfl _ _ rfl [.int .u64 (d0 : Int), .int .u64 (d1 : Int)] _ (DB.out _ hSw).row Tryd.underlying24 rfl (by kernel_rfl)) hS ?_
      try simp only [List.setIfInBounds_toArray, List.set_cons_zero, List.set_cons_succ]
      refine take_p 5 41 (.int .i64 (k : Int)) rfl rfl (by kernel_rfl) (by kernel_rfl) (by kernel_rfl) (fun _ _ _ h => h) rfl (fun w => by go_simp) ?_
      try simp only [List.setIfInBounds_toArray, List.set_cons_zero, List.set_cons_succ]
      refine take_p 7 43 (.pointer (some ⟨gr, 0, none⟩)) rfl rfl (by kernel_rfl) (by kernel_rfl) (by kernel_rfl) (fun _ _ _ h => h) rfl (fun w => by go_simp) ?_
      try simp only [List.setIfInBounds_toArray, List.set_cons_zero, List.set_cons_succ]
      refine take_f 8 44 (.slice (some ⟨gz, 0, none⟩) 128 128) [10, 11, 17, 18, 19] rfl rfl (by kernel_rfl) (by kernel_rfl) (by kernel_rfl) (by kernel_rfl) (by kernel_rfl) (by kernel_rfl) (fun _ _ _ h => h) rfl (fun w hSw => by have c0 := (DB.out _ hSw).cz; go_simp) hS ?_
      try simp only [List.setIfInBounds_toArray, List.set_cons_zero, List.set_cons_succ]
      refine take_p 9 45 (.int .i64 (k : Int)) rfl rfl (by kernel_rfl) (by kernel_rfl) (by kernel_rfl) (fun _ _ _ h => h) rfl (fun w => by go_simp) ?_
      try simp only [List.setIfInBounds_toArray, List.set_cons_zero, List.set_cons_succ]
      refine take_p 10 46 (.pointer (some ⟨gz, k * 32, none⟩)) rfl rfl (by kernel_rfl) (by kernel_rfl) (by kernel_rfl) (fun _ _ _ h => h) rfl (fun w => by go_simp) ?_
      try simp only [List.setIfInBounds_toArray, List.set_cons_zero, List.set_cons_succ]
      refine take_f 11 47 (.agg (u8s sz).toArray) [17, 18, 19] rfl rfl (by kernel_rfl) (by kernel_rfl) (by kernel_rfl) (by kernel_rfl) (by kernel_rfl) (by kernel_rfl) (fun _ _ _ h => h) rfl (fun w hSw => by exact exec_load_mid 28 (.tmp 46) rfl _ _ rfl (u8s sz) _ (HRZ.out _ hSw) Tryd.underlying28 rfl HIsz.out) hS ?_
      try simp only [List.setIfInBounds_toArray, List.set_cons_zero, List.set_cons_succ]
      refine take_p 12 48 (.pointer (some ⟨gr, 1, none⟩)) rfl rfl (by kernel_rfl) (by kernel_rfl) (by kernel_rfl) (fun _ _ _ h => h) rfl (fun w => by go_simp) ?_
      try simp only [List.setIfInBounds_toArray, List.set_cons_zero, List.set_cons_succ]
      refine take_f 13 49 (.slice (some ⟨go, 0, none⟩) 128 128) [15, 16, 17, 18, 19] rfl rfl (by kernel_rfl) (by kernel_rfl) (by kernel_rfl) (by kernel_rfl) (by kernel_rfl) (by kernel_rfl) (fun _ _ _ h => h) rfl (fun w hSw => by have c0 := (DB.out _ hSw).co; go_simp) hS ?_
      try simp only [List.setIfInBounds_toArray, List.set_cons_zero, List.set_cons_succ]
      refine take_p 14 50 (.int .i64 (k : Int)) rfl rfl (by kernel_rfl) (by kernel_rfl) (by kernel_rfl) (fun _ _ _ h => h) rfl (fun w => by go_simp) ?_
      try simp only [List.setIfInBounds_toArray, List.set_cons_zero, List.set_cons_succ]
      refine take_p 15 51 (.pointer (some ⟨go, k * 32, none⟩)) rfl rfl (by kernel_rfl) (by kernel_rfl) (by kernel_rfl) (fun _ _ _ h => h) rfl (fun w => by go_simp) ?_
      try simp only [List.setIfInBounds_toArray, List.set_cons_zero, List.set_cons_succ]
      refine take_f 16 52 (.agg (u8s so).toArray) [17, 18, 19] rfl rfl (by kernel_rfl) (by kernel_rfl) (by kernel_rfl) (by kernel_rfl) (by kernel_rfl) (by kernel_rfl) (fun _ _ _ h => h) rfl (fun w hSw => by exact exec_load_mid 28 (.tmp 51) rfl _ _ rfl (u8s so) _ (HRO.out _ hSw) Tryd.underlying28 rfl HIso.out) hS ?_
      try simp only [List.setIfInBounds_toArray, List.set_cons_zero, List.set_cons_succ]
      refine ready_f 6 (o := { dst := some 42, op := Op.call { callee := Callee.value (Operand.func 49), args := #[Operand.tmp 40, Operand.tmp 41], argTypes := #[24, 3] }, type := 4, pos := "baseot.go:69", after := #[{ on := 4, ground := Ground.data }, { on := 5, ground := Ground.data }], guard := none }) (by kernel_rfl) rfl (fun K hK => ?_)
      go_simp
      refine (kb _).out.mono ?_
      rintro e w1 ⟨rfl, hb1⟩
      have hS1 := hS.trans (hb1.mono hS.size)
      refine hK.out _ _ (fun _ _ => hS1) ?_
      clear hK K
      try simp only [Act.put, List.setIfInBounds_toArray, List.set_cons_zero, List.set_cons_succ]
      clear hb1 hS
      refine ready_f 17 (o := { dst := some 53, op := Op.call { callee := Callee.value (Operand.func 62), args := #[Operand.tmp 42, Operand.tmp 47, Operand.tmp 52], argTypes := #[4, 28, 28] }, type := 28, pos := "baseot.go:69", after := #[{ on := 6, ground := Ground.data }, { on := 11, ground := Ground.data }, { on := 16, ground := Ground.data }, { on := 6, ground := Ground.chain }], guard := none }) (by kernel_rfl) rfl (fun K hK => ?_)
      go_simp
      refine (kh _).out.mono ?_
      rintro e w2 ⟨rfl, hb2⟩
      have hS2 := hS1.trans (hb2.mono hS1.size)
      refine hK.out _ _ (fun _ _ => hS2) ?_
      clear hK K
      try simp only [Act.put, List.setIfInBounds_toArray, List.set_cons_zero, List.set_cons_succ]
      clear hb2 hS1
      refine take_p 18 54 (.pointer (some ⟨gk, k * 32, none⟩)) rfl rfl (by kernel_rfl) (by kernel_rfl) (by kernel_rfl) (fun _ _ _ h => h) rfl (fun w => by go_simp) ?_
      try simp only [List.setIfInBounds_toArray, List.set_cons_zero, List.set_cons_succ]
      have HTH : Hid (w2.there gk (k * 32) (u8s s).toArray.size) := by show w2.there gk (k * 32) (u8s s).toArray.size; rw [HSZ.out]; exact srow_there HFL.out (DB.out _ hS2).rk HK.out
      refine ready_f 19 (o := { dst := none, op := Op.store 28 (Operand.tmp 54) (Operand.tmp 53), type := 0, pos := "baseot.go:69", after := #[{ on := 18, ground := Ground.data }, { on := 17, ground := Ground.data }, { on := 17, ground := Ground.chain }, { on := 0, ground := Ground.phase }, { on := 1, ground := Ground.phase }, { on := 2, ground := Ground.phase }, { on := 3, ground := Ground.phase }, { on := 4, ground := Ground.phase }, { on := 5, ground := Ground.phase }, { on := 6, ground := Ground.phase }, { on := 7, ground := Ground.phase }, { on := 8, ground := Ground.phase }, { on := 9, ground := Ground.phase }, { on := 10, ground := Ground.phase }, { on := 11, ground := Ground.phase }, { on := 12, ground := Ground.phase }, { on := 13, ground := Ground.phase }, { on := 14, ground := Ground.phase }, { on := 15, ground := Ground.phase }, { on := 16, ground := Ground.phase }, { on := 17, ground := Ground.phase }], guard := none }) (by kernel_rfl) rfl (fun K hK => ?_)
      rw [if_pos (by rfl)]
      refine wp_store_mid 28 _ _ rfl gk (k * 32) (u8s s).toArray rfl rfl HTH.out HSI.out (all_one (u8s_one _)) ?_
      refine hK.out _ _ (fun h => absurd (by decide) h) ?_
      clear hK K
      refine done_f (by kernel_rfl) ?_ _
      have hdm := (DB.out _ hS2).setK HAp.out HFL.out HK.out HS.out.2
      rw [HS.out.1, pf_upd, ← HS.out.1] at hdm
      clear HTH hS2 kb kh
      generalize hZ9 : World.setCells w2 gk (k * 32) _ = Z8
      have hdm' : Dm kl d0 d1 w.heap.size gs gr gk gz go (pf fk (k + 1)) (pf fz (k + 1)) (pf fo (k + 1)) w Z8 := by rw [← hZ9]; exact hdm
      have HDM4 := hide1 hdm'
      clear hdm hdm' hZ9 DB HDM3 HFL HSI HSZ HS HRZ HRO HIsz HIso
      go_wp2
      go_roundw
      case rel => exact ⟨k + 1, by have := HK.out; omega, by go_num, HDM4.out⟩
      case measure => have := HK.out; simp [intOf]; omega
    · obtain rfl : k = 128 := by omega
      have DD := hide1 hdm
      clear hdm HD0 Z
      go_upto_region 10 with (fail)
      refine region_f (F := []) (S := fun w' => w'.heap[gs]? = some (sbx d0 d1 gk) ∧ w'.heap[gr]? = some (rbx gz go)) (by kernel_rfl) ⟨DD.out.s, DD.out.r⟩ (fun hS => ?_)
      refine take_f 0 56 (.agg #[.int .u64 (d0 : Int), .int .u64 (d1 : Int), .slice (some ⟨gk, 0, none⟩) 128 128]) [2, 3] rfl rfl (by kernel_rfl) (by kernel_rfl) (by kernel_rfl) (by kernel_rfl) (by kernel_rfl) (by kernel_rfl) (fun _ _ _ h => h) rfl (fun w hSw => by exact exec_load_box 62 (.tmp 4) rfl _ rfl 62 _ _ hSw.1 Tryd.underlying62 rfl (by kernel_rfl)) hS ?_
      try simp only [List.setIfInBounds_toArray, List.set_cons_zero, List.set_cons_succ]
      refine take_f 1 57 (.agg #[.slice (some ⟨gz, 0, none⟩) 128 128, .slice (some ⟨go, 0, none⟩) 128 128]) [3] rfl rfl (by kernel_rfl) (by kernel_rfl) (by kernel_rfl) (by kernel_rfl) (by kernel_rfl) (by kernel_rfl) (fun _ _ _ h => h) rfl (fun w hSw => by exact exec_load_box 64 (.tmp 5) rfl _ rfl 64 _ _ hSw.2 Tryd.underlying64 rfl (by kernel_rfl)) hS ?_
      try simp only [List.setIfInBounds_toArray, List.set_cons_zero, List.set_cons_succ]
      refine ready_f 2 (o := { dst := none, op := Op.store 62 (Operand.tmp 2) (Operand.tmp 56), type := 0, pos := "baseot.go:71", after := #[{ on := 0, ground := Ground.data }, { on := 0, ground := Ground.phase }, { on := 1, ground := Ground.textOnly Departure.lateStores }], guard := none }) (by kernel_rfl) rfl (fun K hK => ?_)
      rw [if_pos (by rfl)]
      refine wp_store_row 62 _ _ rfl (w.heap.size + 1) _ rfl rfl 62 _ DD.out.r2 (by kernel_rfl) (by simp) (by simp [Value.oneCell']) ?_
      refine hK.out _ _ (fun _ h => ⟨(setRow_other _ _ _ _ (by have := HO.out; omega)).trans h.1, (setRow_other _ _ _ _ (by have := HO.out; omega)).trans h.2⟩) ?_
      clear hK K
      refine ready_f 3 (o := { dst := none, op := Op.store 64 (Operand.tmp 3) (Operand.tmp 57), type := 0, pos := "baseot.go:71", after := #[{ on := 1, ground := Ground.data }, { on := 2, ground := Ground.chain }, { on := 0, ground := Ground.phase }, { on := 1, ground := Ground.phase }, { on := 2, ground := Ground.phase }], guard := none }) (by kernel_rfl) rfl (fun K hK => ?_)
      rw [if_pos (by rfl)]
      refine wp_store_row 64 _ _ rfl (w.heap.size + 1 + 1) _ rfl rfl 64 _ ((setRow_other _ _ _ _ (by omega)).trans DD.out.r3) (by kernel_rfl) (by simp) (by simp [Value.oneCell']) ?_
      refine hK.out _ _ (fun _ h => ⟨(setRow_other _ _ _ _ (by have := HO.out; omega)).trans h.1, (setRow_other _ _ _ _ (by have := HO.out; omega)).trans h.2⟩) ?_
      clear hK K
      refine done_f (by kernel_rfl) ?_ _
      have hp := HAp.out.p
      have ho := HAp.out.o
      have f2 := setRow_heap wr (w.heap.size + 1) _ #[.int .u64 (d0 : Int), .int .u64 (d1 : Int), .slice (some ⟨gk, 0, none⟩) 128 128] _ _ DD.out.r2
      have f3 := setRow_heap (wr.setRow (w.heap.size + 1) #[.int .u64 (d0 : Int), .int .u64 (d1 : Int), .slice (some ⟨gk, 0, none⟩) 128 128]) (w.heap.size + 1 + 1) _ #[.slice (some ⟨gz, 0, none⟩) 128 128, .slice (some ⟨go, 0, none⟩) 128 128] _ _ ((setRow_other _ _ _ _ (by omega)).trans DD.out.r3)
      have q : ∀ {g : Nat} {o : Obj} (c d : Array Value), w.heap.size + 2 < g → wr.heap[g]? = some o → ((wr.setRow (w.heap.size + 1) c).setRow (w.heap.size + 1 + 1) d).heap[g]? = some o := fun c d h1 h2 => (setRow_other _ _ _ _ (by omega)).trans ((setRow_other _ _ _ _ (by omega)).trans h2)
      have fk' := q #[.int .u64 (d0 : Int), .int .u64 (d1 : Int), .slice (some ⟨gk, 0, none⟩) 128 128] #[.slice (some ⟨gz, 0, none⟩) 128 128, .slice (some ⟨go, 0, none⟩) 128 128] ho.2.2.1 DD.out.rk
      have fz' := q #[.int .u64 (d0 : Int), .int .u64 (d1 : Int), .slice (some ⟨gk, 0, none⟩) 128 128] #[.slice (some ⟨gz, 0, none⟩) 128 128, .slice (some ⟨go, 0, none⟩) 128 128] ho.2.2.2.1 DD.out.rz
      have fo' := q #[.int .u64 (d0 : Int), .int .u64 (d1 : Int), .slice (some ⟨gk, 0, none⟩) 128 128] #[.slice (some ⟨gz, 0, none⟩) 128 128, .slice (some ⟨go, 0, none⟩) 128 128] ho.2.2.2.2 DD.out.ro
      have fb := Below.setRow' (Below.setRow' DD.out.bel (show w.heap.size ≤ w.heap.size + 1 by omega) #[.int .u64 (d0 : Int), .int .u64 (d1 : Int), .slice (some ⟨gk, 0, none⟩) 128 128]) (show w.heap.size ≤ w.heap.size + 1 + 1 by omega) #[.slice (some ⟨gz, 0, none⟩) 128 128, .slice (some ⟨go, 0, none⟩) 128 128]
      have f2' := (setRow_other (wr.setRow (w.heap.size + 1) #[.int .u64 (d0 : Int), .int .u64 (d1 : Int), .slice (some ⟨gk, 0, none⟩) 128 128]) (w.heap.size + 1 + 1) (w.heap.size + 1) #[.slice (some ⟨gz, 0, none⟩) 128 128, .slice (some ⟨go, 0, none⟩) 128 128] (by omega)).trans f2
      unfold srow at fk' fz' fo'
      rw [pf_all] at fk' fz' fo'
      clear f2 q hp ho DD
      simp only [drew_setRow] at *
      go_wp2
      refine ret_two Tryd.results43 (w.heap.size + 1) (w.heap.size + 1 + 1) _ _ rfl rfl f2' f3 (by kernel_rfl) (by kernel_rfl) rfl ?_
      exact ⟨gk, gz, go, rfl, fk', fz', fo', fb.drew⟩
end Go.Proofs.YtlkkninnfiaedaaDoor
