/- Layer 8: a disk that rotted. -/
import Derived.Test.YtgcecejamcnkiaaDoorY43
namespace Go.Proofs.YtgcecejamcnkiaaDoor
open Go.RowKit Go.Maps

set_option maxHeartbeats 2000000 in
set_option maxRecDepth 100000 in
theorem truncate_far {w : World} {c : Nat → Colour} {t g gw : Nat} {m : Pl} (h : Live w c t g m) (d : Int) (s used : Nat) (hs : s < 9223372036854775807) (hw : WalAt w c t gw g d s used) (hst : m.steps + 2 < 1099511627775) :
    Calls Tryd.prog 25 #[ptr gw] w fun e w' => e = .returned (.int .i64 (m.trunc d s).1) ∧ ∃ c', (∀ b, b < w.heap.size → c' b = c b) ∧ Live w' c' t g (m.trunc d s).2 ∧ Ch (fun b => (c b).1 = t ∨ b = gw) w w' ∧ WalAt w' c' t gw g d (if (m.trunc d s).1 = 0 then s + 1 else s) (if (m.trunc d s).1 = 0 then 0 else used) := by
  have hB := begin_any h d s used (s + 1) (s + 1) hw hst
  have k2 := hw.row.at 2 _ rfl
  obtain ⟨er, her⟩ : ∃ er, er = (m.trunc d s).1 := ⟨_, rfl⟩
  obtain ⟨M, hM⟩ : ∃ M, M = (m.trunc d s).2 := ⟨_, rfl⟩
  obtain ⟨sn, hsn⟩ : ∃ sn, sn = if er = 0 then s + 1 else s := ⟨_, rfl⟩
  obtain ⟨un, hun⟩ : ∃ un, un = if er = 0 then 0 else used := ⟨_, rfl⟩
  have HB : Hid (Calls Tryd.prog 47 #[ptr gw, .agg (headCells (s + 1) (s + 1)).toArray] w fun e w' => e = .returned (.int .i64 er) ∧ ∃ c', (∀ b, b < w.heap.size → c' b = c b) ∧ Live w' c' t g M ∧ Ch (fun b => (c b).1 = t ∨ b = gw) w w' ∧ WalAt w' c' t gw g d sn used) := by
    rw [hsn, her, hM]
    exact hB
  have HU : Hid (un = if er = 0 then 0 else used) := hun
  rw [← her, ← hM, ← hsn, ← hun]
  clear hB her hM hsn hun h hw
  go_enter Tryd.func25, Tryd.ntmps25
  go_upto_region 1 with fail
  refine wp_region_lit ?_
  refine wl_mv (.tmp 0) rfl rfl (ptr gw) rfl ?_
  simp only [Act.put, List.setIfInBounds_toArray, List.set_cons_succ, List.set_cons_zero]
  refine wl_nil (.tmp 5) rfl rfl ⟨gw, 0, none⟩ rfl ?_
  simp only [Act.put, List.setIfInBounds_toArray, List.set_cons_succ, List.set_cons_zero]
  refine wl_fld f108_2 (.tmp 6) rfl rfl gw 0 rfl ?_
  simp only [Act.put, List.setIfInBounds_toArray, List.set_cons_succ, List.set_cons_zero]
  refine wl_ld o99 (.tmp 7) rfl rfl gw (0 + 2) rfl (.int .u64 (s : Nat)) k2 ?_
  simp only [Act.put, List.setIfInBounds_toArray, List.set_cons_succ, List.set_cons_zero]
  refine wl_inc64 (.tmp 8) rfl rfl s (by omega) rfl ?_
  simp only [Act.put, List.setIfInBounds_toArray, List.set_cons_succ, List.set_cons_zero]
  refine wl_as (.tmp 9) rfl rfl (.int .u64 ((s + 1 : Nat) : Int)) rfl ?_
  simp only [Act.put, List.setIfInBounds_toArray, List.set_cons_succ, List.set_cons_zero]
  refine wpList_nil ?_
  clear k2
  go_upto_region 2 with fail
  refine wp_region_lit ?_
  refine wl_mv (.tmp 0) rfl rfl (ptr gw) rfl ?_
  simp only [Act.put, List.setIfInBounds_toArray, List.set_cons_succ, List.set_cons_zero]
  refine wl_mv (.tmp 3) rfl rfl (.int .u64 ((s + 1 : Nat) : Int)) rfl ?_
  simp only [Act.put, List.setIfInBounds_toArray, List.set_cons_succ, List.set_cons_zero]
  refine wl_mv (.tmp 3) rfl rfl (.int .u64 ((s + 1 : Nat) : Int)) rfl ?_
  simp only [Act.put, List.setIfInBounds_toArray, List.set_cons_succ, List.set_cons_zero]
  refine wl rfl _ w (run_build101xOp (.tmp 11) (.tmp 12) rfl (s + 1) (s + 1) rfl rfl) ?_
  simp only [Act.put, List.setIfInBounds_toArray, List.set_cons_succ, List.set_cons_zero]
  refine wpList_callF eN47 [.tmp 10, .tmp 13] _ rfl rfl [ptr gw, .agg (headCells (s + 1) (s + 1)).toArray] rfl ?_
  refine HB.out.mono ?_
  rintro e w1 ⟨rfl, c1, q1, q2, q3, q4⟩
  refine ⟨_, rfl, ?_⟩
  have R1 : Hid ((∀ b, b < w.heap.size → c1 b = c b) ∧ Live w1 c1 t g M ∧ Ch (fun b => (c b).1 = t ∨ b = gw) w w1 ∧ WalAt w1 c1 t gw g d sn used) := ⟨q1, q2, q3, q4⟩
  clear q1 q2 q3 q4
  by_cases he : er = 0
  · subst he
    have eun : un = 0 := by rw [HU.out]; rfl
    subst eun
    go_upto_region 5 with fail
    refine wp_region_lit ?_
    refine wl_mv (.tmp 0) rfl rfl (ptr gw) rfl ?_
    simp only [Act.put, List.setIfInBounds_toArray, List.set_cons_succ, List.set_cons_zero]
    refine wl_nil (.tmp 18) rfl rfl ⟨gw, 0, none⟩ rfl ?_
    simp only [Act.put, List.setIfInBounds_toArray, List.set_cons_succ, List.set_cons_zero]
    refine wl_fld f108_3 (.tmp 19) rfl rfl gw 0 rfl ?_
    simp only [Act.put, List.setIfInBounds_toArray, List.set_cons_succ, List.set_cons_zero]
    refine wl_put size3' (.tmp 20) (.const (.int .i64 0)) rfl rfl rfl gw 3 108 _ rfl (.int .i64 ((0 : Nat) : Int)) rfl ⟨rfl, rfl⟩ R1.out.2.2.2.row (by show 3 < 4; decide) ?_
    refine wpList_nil ?_
    have hset := R1.out.2.2.2.set R1.out.2.1 0
    have R2 : Hid ((∀ b, b < w.heap.size → c1 b = c b) ∧ Live (w1.setCell ⟨gw, 3, none⟩ (.int .i64 ((0 : Nat) : Int))) c1 t g M ∧ Ch (fun b => (c b).1 = t ∨ b = gw) w (w1.setCell ⟨gw, 3, none⟩ (.int .i64 ((0 : Nat) : Int))) ∧ WalAt (w1.setCell ⟨gw, 3, none⟩ (.int .i64 ((0 : Nat) : Int))) c1 t gw g d sn 0) := ⟨R1.out.1, hset.1, R1.out.2.2.1.trans' hset.2.2 (fun _ _ e => Or.inr e), hset.2.1⟩
    clear hset
    generalize w1.setCell ⟨gw, 3, none⟩ (.int .i64 ((0 : Nat) : Int)) = w2 at R2 ⊢
    simp only [Nat.zero_add]
    go_wp2_with fail
    go_ret
    exact ⟨rfl, c1, R2.out⟩
  · have t1 : (er != 0) = true := by simp [he]
    have t2 : decide (er = 0) = false := decide_eq_false he
    have t3 : (er == 0) = false := by simp [he]
    have eun : un = used := by rw [HU.out, if_neg he]
    subst eun
    go_wp2_with fail
    go_ret
    exact ⟨rfl, c1, R1.out⟩

theorem LawD.bel {w W W' : World} {c : Nat → Colour} {gd gw g : Nat} {m : Pl} {ds : List Nat} {i n S E : Nat} {D : List (List (List Nat))} {nv : Value} {dims K Kd : Nat} (h : LawD w W c gd gw g m ds i n S E D nv dims K Kd) (hb : Below W.heap.size W W') : LawD w W' c gd gw g m ds i n S E D nv dims K Kd := ⟨h.desk.below hb, h.cc, h.below.trans (hb.mono h.below.size), h.gd, h.gw, h.le, h.dim⟩
theorem zero33 : (Tryd.prog.info? 33).map (·.zero) = some (some (.agg (opCells 0 0 (.slice none 0 0) (.slice none 0 0)).toArray)) := by kernel_rfl
theorem IntsIn.isSl {W : World} {v : Value} {l : List Int} (h : IntsIn W v l) : ∃ p n c, v = .slice p n c := by obtain ⟨p, cap, h, _⟩ := h; exact ⟨p, _, cap, h⟩
/-- what a log tells of any disk: nothing that is long, no other answer than 0 and 4 -/
theorem rowGo_f (A : Nat → Bool) (X : Nat → List Nat) (E : Int → Nat → Int) (a : Nat) (hE : ∀ f b, f = 0 ∨ f = 4 → E f b = 0 ∨ E f b = 4) : ∀ (n j : Nat) (acc : List Nat) (f : Int), f = 0 ∨ f = 4 → (rowGo A X E a n j acc f).2.2 = 0 ∨ (rowGo A X E a n j acc f).2.2 = 4 := by
  intro n
  induction n with
  | zero => intro j acc f hf; exact hf
  | succ n ih =>
    intro j acc f hf
    unfold rowGo
    split
    · split
      · exact hf
      · exact ih _ _ _ (hE f _ hf)
    · exact hf
theorem txsGo_f (A : Nat → Bool) (X : Nat → List Nat) (E : Int → Nat → Int) (hE : ∀ f b, f = 0 ∨ f = 4 → E f b = 0 ∨ E f b = 4) : ∀ (n used : Nat) (D : List (List (List Nat))) (f : Int), f = 0 ∨ f = 4 → ((txsGo A X E n used D f).2 = 0 ∨ (txsGo A X E n used D f).2 = 4) ∧ ((∀ L ∈ D, longTx L = false) → ∀ D' u, (txsGo A X E n used D f).1 = some (D', u) → (∀ L ∈ D', longTx L = false) ∧ D'.length ≤ D.length + n) := by
  intro n
  induction n with
  | zero => intro used D f hf; exact ⟨hf, fun _ D' u h => by cases h⟩
  | succ n ih =>
    intro used D f hf
    have hr : (rowRd A X E used f).2.2 = 0 ∨ (rowRd A X E used f).2.2 = 4 := rowGo_f A X E used hE _ _ _ _ (hE f _ hf)
    unfold txsGo
    split
    · refine ⟨hr, fun hD D' u h => ?_⟩
      injection h with h
      injection h with h _
      rw [← h]
      exact ⟨hD, by omega⟩
    · split
      · exact ⟨hr, fun _ D' u h => by cases h⟩
      · split
        · exact ⟨hr, fun _ D' u h => by cases h⟩
        · rename_i tx _ hl
          have h1 := ih (used + (rowRd A X E used f).2.1) (D ++ [tx]) _ hr
          refine ⟨h1.1, fun hD D' u h => ?_⟩
          have h2 := h1.2 (fun L hL => by
            rcases List.mem_append.1 hL with hL | hL
            · exact hD L hL
            · rw [List.mem_singleton.1 hL]; simpa using hl) D' u h
          exact ⟨h2.1, by have := h2.2; simp at this; omega⟩
theorem logOf_f (m : Pl) (n i S F : Nat) : (logEr (logOf m n i S F) = 0 ∨ logEr (logOf m n i S F) = 4) ∧ ∀ D u, (logOf m n i S F).1 = some (D, u) → (∀ L ∈ D, longTx L = false) ∧ D.length ≤ 4200 := by
  have h1 := txsGo_f (logA m n i S F) (logX m i) (logE m n i S) (fun f b hf => by
    unfold logE rdF
    split
    · exact hf
    · right
      rename_i hne
      unfold rdEr at hne ⊢
      split
      · rfl
      · rename_i h2
        rw [if_neg h2] at hne
        rcases partEr_two n (m.rd i (1 + b)) b with e | e
        · exact absurd e hne
        · exact e) 4200 0 [] 0 (Or.inl rfl)
  refine ⟨?_, fun D u h => ?_⟩
  · unfold logEr
    split
    · split
      · exact Or.inr rfl
      · exact Or.inl rfl
    · rename_i hne
      rcases h1.1 with e | e
      · exact absurd e hne
      · exact Or.inr e
  · have h2 := h1.2 (fun L hL => by cases hL) D u h
    exact ⟨h2.1, by have := h2.2; simp at this; omega⟩
/-- bits that rot -/
def BitsIn (W : World) (v : Value) (bs : List (Int × Int × Int)) : Prop :=
  ∃ p cap, v = .slice p bs.length cap ∧ bs.length ≤ 1048576 ∧ (∀ x ∈ bs, (-9223372036854775808 ≤ x.1 ∧ x.1 ≤ 9223372036854775807) ∧ (-9223372036854775808 ≤ x.2.1 ∧ x.2.1 ≤ 9223372036854775807)) ∧ (bs = [] ∨ ∃ b off, p = some ⟨b, off, none⟩ ∧ ∀ i, i < bs.length → W.cell? ⟨b, off + i * 3 + 0, none⟩ = some (.int .i64 (bs.getD i default).1) ∧ W.cell? ⟨b, off + i * 3 + 1, none⟩ = some (.int .i64 (bs.getD i default).2.1) ∧ W.cell? ⟨b, off + i * 3 + 2, none⟩ = some (.int .i64 (bs.getD i default).2.2))
theorem s64 : (Tryd.prog.info? 64).map (·.size) = some 3 := by kernel_rfl
theorem sl61 : Tryd.prog.underlying 61 = some (.slice (Tryd.prog.elem 61)) := by kernel_rfl
theorem idx61 (b off n cap k : Nat) (h : k < n) (w' : World) : (Instr.indexAt 61 (.slice (some ⟨b, off, none⟩) n cap) (.int .i64 (k : Nat))).run Tryd.prog w' = .ok (.pointer (some ⟨b, off + k * 3, none⟩)) w' := by
  obtain ⟨i5, hi5, hsz⟩ := Option.map_eq_some_iff.1 s64
  simp [Instr.indexAt, asIntOf, run_underlying Tryd.underlying61, h, sizeOf, typeInfo, hi5, hsz, add_none]
theorem f64_0 : FieldAt 64 0 0 := fun w g off => by kernel_rfl
theorem f64_1 : FieldAt 64 1 1 := fun w g off => by kernel_rfl
theorem f64_2 : FieldAt 64 2 2 := fun w g off => by kernel_rfl
theorem eN23 : EntersF 23 := Go.Proofs.enters_of Tryd.func23 (by kernel_rfl) rfl
theorem rot_same (m : Pl) (d p a y : Int) : (m.rot d p a y).2.sh = m.sh ∧ (m.rot d p a y).2.on = m.on ∧ (m.rot d p a y).2.fuse = m.fuse ∧ (m.rot d p a y).2.steps = m.steps := by
  unfold Pl.rot
  split <;> exact ⟨rfl, rfl, rfl, rfl⟩
theorem Sw.lv {w0 W : World} {c : Nat → Colour} {g n : Nat} {m : Pl} {K : Nat} (h : Sw w0 W c g n m K) (hon : m.on = true) : Lv m 0 ∧ m.size 0 = n := by
  have hd := h.shape.disk 0 (by simp)
  exact ⟨⟨h.live.2.1, hon, by rw [h.shape.n]; simp, hd.1⟩, hd.2⟩
/-- an Append to any journal, the fuse not burning -/
theorem app_far {m : Pl} {n : Nat} (lv : Lv m 0) (hn : m.size 0 = n) (h8 : 8 ≤ n) (hf : m.fuse < 0) (S used : Nat) (L : List (List Nat)) (hb : ∀ r ∈ L, ∀ c ∈ r, c < 256) (hl : longTx L = false) :
    ((m.app 0 S used n L).1 = 0 ∨ (m.app 0 S used n L).1 = 3) ∧ (m.app 0 S used n L).2.1.sh = m.sh ∧ (m.app 0 S used n L).2.1.on = true ∧ (m.app 0 S used n L).2.1.fuse < 0 ∧ (m.app 0 S used n L).2.1.steps ≤ m.steps + 100 := by
  have hK : (rowSecs S (bodyOf L)).length ≤ 90 := by rw [rowSecs_length, bodyOf_length]; have := (notLong hl).2.2.1; unfold secsOf; omega
  unfold Pl.app
  rw [hl, if_neg (by decide)]
  cases hfb : fitsB L n used with
  | false => exact ⟨Or.inr rfl, rfl, lv.on, hf, by show m.steps ≤ _; omega⟩
  | true =>
    rw [if_pos rfl]
    have hfit : secsOf (txSize L) + used ≤ n - 1 := by
      unfold fitsB at hfb
      simp only [Bool.and_eq_true, decide_eq_true_eq] at hfb
      omega
    rcases Lv.lay (rowSecs S (bodyOf L)) (1 + used) m lv (rowSecs_sec S _ (bodyOf_lt L hb)) (by rw [hn, rowSecs_length, bodyOf_length]; omega) with ⟨k1, k⟩ | ⟨k1, k⟩
    · exact ⟨Or.inl k1, k.oth.sh, k.lv.on, k.fuse hf, by have := k.le; show (m.lay (0 : Nat) (1 + used) (rowSecs S (bodyOf L))).2.steps ≤ _; omega⟩
    · exact absurd k.fuse (by omega)
theorem trunc_far {m : Pl} {n : Nat} (lv : Lv m 0) (hn : m.size 0 = n) (h8 : 8 ≤ n) (hf : m.fuse < 0) (S : Nat) : (m.trunc ((0 : Nat) : Int) S).1 = 0 := by
  unfold Pl.trunc Pl.begin
  rcases Lv.lay [headSec (S + 1) (S + 1)] 0 m lv (fun s hs => by rw [List.mem_singleton.1 hs]; exact headSec_sec _ _) (by simp; omega) with ⟨k1, k⟩ | ⟨k1, k⟩
  · exact k1
  · exact absurd k.fuse (by omega)
/-- Open of any disk, the fuse not burning -/
theorem open_far {w0 W : World} {c : Nat → Colour} {g n : Nat} {m : Pl} {K : Nat} (h : Sw w0 W c g n m K) (hK : K ≤ 1000000000000) (h8 : 8 ≤ n) (hon : m.on = true) (hf : m.fuse < 0) :
    Calls Tryd.prog 20 #[ptr g, .int .i64 0] W fun e W' => (e = .returned (.tuple #[.pointer none, .slice none 0 0, .int .i64 4]) ∧ Below w0.heap.size w0 W') ∨ ∃ gw p cap S E D c' m', e = .returned (.tuple #[ptr gw, .slice p D.length cap, .int .i64 0]) ∧ Sw w0 W' c' g n m' (K + 2) ∧ W.heap.size ≤ gw ∧ WalAt W' c' 2 gw g (0 : Nat) S E ∧ E ≤ 4096 ∧ S < 9223372036854775806 ∧ m'.on = true ∧ m'.fuse < 0 ∧ TxsIn W' (.slice p D.length cap) D ∧ D.length ≤ 4200 ∧ ∀ L ∈ D, longTx L = false := by
  have hle := h.le
  have hlv := h.lv hon
  have hd : DiskOn m [n] [] 0 := ⟨h.shape, by simp, h8, hon, by omega⟩
  refine (open_any h.live hd h.tab h.c0).mono fun e W' he => ?_
  obtain ⟨wv, tv, he, c', hcc, hl, hch, ho, hx⟩ := he
  have hg : [n].getD 0 0 = n := rfl
  rw [hg] at he hl ho hx
  have hcase : (m.openR n 0).1 = 4 ∧ (m.openR n 0).2 = m ∨ headOk (m.rd 0 0) = true ∧ m.openR n 0 = m.begin ((0 : Nat) : Int) (hS (m.rd 0 0) + 1) (hF (m.rd 0 0)) := by
    unfold Pl.openR
    cases hk : headOk (m.rd 0 0) with
    | false => exact Or.inl ⟨rfl, rfl⟩
    | true =>
      rw [if_pos rfl]
      rcases (logOf_f m n 0 (hS (m.rd 0 0)) (hF (m.rd 0 0))).1 with e | e
      · rw [if_pos e]; exact Or.inr ⟨rfl, rfl⟩
      · rw [if_neg (by rw [e]; decide)]; exact Or.inl ⟨e, rfl⟩
  rcases hcase with ⟨e1, e2⟩ | ⟨hk, e1⟩
  · left
    obtain ⟨q1, q2⟩ := hx (by rw [e1]; decide)
    refine ⟨by rw [he, q1, q2, e1], (h.nx hcc hl hch (by rw [e2]) (K' := K) (by rw [e2]; exact hle)).below⟩
  · right
    have hSlt := headOk_lt _ hk
    rw [e1] at he hl ho
    unfold Pl.begin at he hl ho
    rcases Lv.lay [headSec (hS (m.rd 0 0) + 1) (hF (m.rd 0 0))] 0 m hlv.1 (fun s hs => by rw [List.mem_singleton.1 hs]; exact headSec_sec _ _) (by rw [hlv.2]; simp; omega) with ⟨k1, k⟩ | ⟨k1, k⟩
    · obtain ⟨gw, D, used, q1, q2, q3, q4, q5, q6, W5, q7, q8, q9⟩ := ho k1
      have hD := (logOf_f m n 0 (hS (m.rd 0 0)) (hF (m.rd 0 0))).2 D used q3
      obtain ⟨us, hus⟩ := q8.con (by omega) fun tx htx => by have := (notLong (hD.1 tx htx)).1; omega
      have hT : TxsC W' tv D us := hus W' (by have := q5.row.lt; omega) fun b h4 h5 => q9 b h4 (by omega)
      obtain ⟨p, cap, e, _⟩ := id hT
      subst e
      have hkl := k.le
      simp only [List.length_singleton] at hkl
      exact ⟨gw, p, cap, _, used, D, c', _, by rw [he, k1, q1], h.nx hcc hl hch k.oth.sh (by omega), q2, q5, q4, by omega, k.lv.on, k.fuse hf, hT.ins, hD.2, hD.1⟩
    · exact absurd k.fuse (by omega)
set_option maxHeartbeats 32000000 in
set_option maxRecDepth 100000 in
theorem walRots_any (w : World) (ht : Fr.TabIn w) (v : Value) (os : List OpD) (ho : OpsIn w v os) (bv : Value) (bs : List (Int × Int × Int)) (hbs : BitsIn w bv bs) : Calls Tryd.prog 7 #[v, bv] w fun e w' => e = .returned (.bool true) ∧ Below w.heap.size w w' := by
  obtain ⟨p, cap, rfl, hcap, hlen, hcells, hops⟩ := ho
  obtain ⟨bp, bc, rfl, hbl, hbi, hbcells⟩ := hbs
  obtain ⟨ln, hln⟩ : ∃ ln, ln = os.length := ⟨_, rfl⟩
  obtain ⟨bn, hbn⟩ : ∃ bn, bn = bs.length := ⟨_, rfl⟩
  have HT : Hid (Fr.TabIn w) := ht
  rw [← hln] at hlen hcap ⊢
  rw [← hbn] at hbl ⊢
  obtain ⟨PQ, hPQ⟩ : ∃ PQ : Ending → World → Prop, PQ = fun (e : Ending) (w' : World) => e = .returned (.bool true) ∧ Below w.heap.size w w' := ⟨_, rfl⟩
  have HPQ : Hid (PQ = fun (e : Ending) (w' : World) => e = .returned (.bool true) ∧ Below w.heap.size w w') := hPQ
  rw [← hPQ]
  have HSH : Hid (Calls Tryd.prog 9 #[] w fun e w' => e = .returned (.bool true) ∧ Below w.heap.size w w') := shown_any w ht
  have HOP : Hid (∀ k, k < ln → ∃ o : OpD, OpIn w o ∧ ∃ b off, p = some ⟨b, off, none⟩ ∧ ∀ W, Below w.heap.size w W → ∀ j v, o.cells[j]? = some v → W.cell? ⟨b, off + k * 4 + j, none⟩ = some v) := fun k hlt => by
    have hkl : k < os.length := by rw [← hln]; exact hlt
    refine ⟨os.getD k default, hops _ (getD_mem hkl), ?_⟩
    rcases hcells with e | ⟨b, off, h1, h2⟩
    · rw [e] at hkl; exact absurd hkl (Nat.not_lt_zero _)
    · refine ⟨b, off, h1, fun W hW j v hj => ?_⟩
      have hj4 : j < 4 := (List.getElem?_eq_some_iff.1 hj).1
      have h3 := h2 k hkl j hj4
      rw [hj] at h3
      rw [Nat.add_assoc, ← h3]
      exact World.cell?_of_block (hW.block b (block_lt_of_cell h3))
  have HBT : Hid (∀ k, k < bn → ∃ x : Int × Int × Int, ((-9223372036854775808 ≤ x.1 ∧ x.1 ≤ 9223372036854775807) ∧ (-9223372036854775808 ≤ x.2.1 ∧ x.2.1 ≤ 9223372036854775807)) ∧ ∃ b off, bp = some ⟨b, off, none⟩ ∧ ∀ W, Below w.heap.size w W → W.cell? ⟨b, off + k * 3 + 0, none⟩ = some (.int .i64 x.1) ∧ W.cell? ⟨b, off + k * 3 + 1, none⟩ = some (.int .i64 x.2.1) ∧ W.cell? ⟨b, off + k * 3 + 2, none⟩ = some (.int .i64 x.2.2)) := fun k hlt => by
    have hkl : k < bs.length := by rw [← hbn]; exact hlt
    refine ⟨bs.getD k default, hbi _ (getD_mem hkl), ?_⟩
    rcases hbcells with e | ⟨b, off, h1, h2⟩
    · rw [e] at hkl; exact absurd hkl (Nat.not_lt_zero _)
    · obtain ⟨h3, h4, h5⟩ := h2 k hkl
      exact ⟨b, off, h1, fun W hW => ⟨by rw [← h3]; exact World.cell?_of_block (hW.block b (block_lt_of_cell h3)), by rw [← h4]; exact World.cell?_of_block (hW.block b (block_lt_of_cell h4)), by rw [← h5]; exact World.cell?_of_block (hW.block b (block_lt_of_cell h5))⟩⟩
  clear hPQ ht hln hops hcells hbn hbi hbcells
  go_enter Tryd.func7, Tryd.ntmps7
  go_upto_region 4 with (go_at_call 9; refine HSH.out.mono ?_; rintro e w1 ⟨rfl, b1⟩; have R1 : Hid (Below w.heap.size w w1) := b1; clear b1 HSH)
  refine wp_region_lit ?_
  refine wpList_callF eN11 [.const (.int .i64 1), .const (.int .i64 40)] _ rfl rfl [.int .i64 1, .int .i64 40] rfl ?_
  refine (law_made w w1 R1.out 1 40 ⟨by decide, by decide⟩ ⟨by decide, by decide⟩).mono ?_
  rintro e w3 ⟨g, c3, rfl, q1, q2, q3⟩
  refine ⟨_, rfl, ?_⟩
  have R3 : Hid ((∀ b, b < w.heap.size → c3 b = (0, 0)) ∧ Live w3 c3 2 g (newPl (List.replicate 1 ((40 : Nat) : Int)) []) ∧ Below w.heap.size w w3) := ⟨q1, q2, q3⟩
  clear q1 q2 q3 R1
  simp only [Act.put, List.setIfInBounds_toArray, List.set_cons_succ, List.set_cons_zero]
  refine wl_as (.tmp 21) rfl rfl (ptr g) rfl ?_
  simp only [Act.put, List.setIfInBounds_toArray, List.set_cons_succ, List.set_cons_zero]
  refine wpList_nil ?_
  go_upto_region 7 with fail
  refine wp_region_lit ?_
  refine wl_mv (.tmp 6) rfl rfl (ptr g) rfl ?_
  simp only [Act.put, List.setIfInBounds_toArray, List.set_cons_succ, List.set_cons_zero]
  refine wpList_callF eN12 [.tmp 24, .const (.int .i64 0), .const (.int .i64 40)] _ rfl rfl [ptr g, .int .i64 0, .int .i64 40] rfl ?_
  refine (law_begun (n := 40) R3.out.2.2 ⟨by decide, by decide⟩ ⟨by decide, by decide⟩ R3.out.2.1 R3.out.1 HT.out).mono ?_
  rintro e w4 ⟨gd, c4, gw4, m4, S4, E4, rfl, q1, _⟩
  refine ⟨_, rfl, ?_⟩
  have R4 : Hid (LawD w w4 c4 gd gw4 g m4 [40] 0 40 S4 E4 [] (.slice none 0 0) 0 6000 0) := q1
  clear q1 R3
  simp only [Act.put, List.setIfInBounds_toArray, List.set_cons_succ, List.set_cons_zero]
  refine wl_as (.tmp 25) rfl rfl (ptr gd) rfl ?_
  simp only [Act.put, List.setIfInBounds_toArray, List.set_cons_succ, List.set_cons_zero]
  refine wpList_nil ?_
  go_upto_region 10 with fail
  go_wp2_with fail
  go_loopw [8] (fun vi W => ∃ (k : Nat) (c : Nat → Colour) (gw : Nat) (m : Pl) (S E : Nat) (D : List (List (List Nat))) (nv : Value) (dims : Nat), vi = .int .i64 (k : Nat) ∧ k ≤ ln ∧ LawD w W c gd gw g m [40] 0 40 S E D nv dims (6000 + 20000 * k) (10 * k)) (fun vi _ => ln - (intOf vi).toNat)
  case atStart => exact ⟨0, c4, gw4, m4, S4, E4, [], _, 0, rfl, Nat.zero_le _, R4.out⟩
  case round =>
    obtain ⟨k, c, gw, m, S, E, D, nv, dims, rfl, hk, hI⟩ := hrel
    have HI : Hid (LawD w wr c gd gw g m [40] 0 40 S E D nv dims (6000 + 20000 * k) (10 * k)) := hI
    clear hI R4
    by_cases hlt : k < ln
    · have t1 : decide ((k : Int) < (ln : Int)) = true := decide_eq_true (by omega)
      obtain ⟨o, hoin, b, off, hp, hcl⟩ := HOP.out k hlt
      have HC : Hid (p = some ⟨b, off, none⟩ ∧ (∀ j v, o.cells[j]? = some v → wr.cell? ⟨b, off + k * 4 + j, none⟩ = some v) ∧ OpIn w o) := ⟨hp, hcl wr HI.out.below, hoin⟩
      clear hoin hp hcl
      go_upto_region 13 with (refine wl_sl sl22 (.tmp 29) rfl rfl p ln cap rfl ?_)
      refine wp_region_lit ?_
      refine wl_mv (.tmp 0) rfl rfl (.slice p ln cap) rfl ?_
      simp only [Act.put, List.setIfInBounds_toArray, List.set_cons_succ, List.set_cons_zero]
      refine wl_mv (.tmp 8) rfl rfl (.int .i64 (k : Nat)) rfl ?_
      simp only [Act.put, List.setIfInBounds_toArray, List.set_cons_succ, List.set_cons_zero]
      refine wl_ix (.tmp 34) (.tmp 35) rfl rfl (.slice p ln cap) (.pointer (some ⟨b, off + k * 4, none⟩)) (.int .i64 (k : Nat)) rfl rfl (fun w' => by rw [HC.out.1]; exact idx22 b off ln cap k hlt w') ?_
      simp only [Act.put, List.setIfInBounds_toArray, List.set_cons_succ, List.set_cons_zero]
      refine wl_ldA agg33 (.tmp 36) rfl rfl b (off + k * 4) rfl o.cells rfl HC.out.2.1 ?_
      simp only [Act.put, List.setIfInBounds_toArray, List.set_cons_succ, List.set_cons_zero]
      refine wpList_alloc_store agg33 _ zero33 rfl rfl rfl rfl rfl (.tmp 37) rfl o.cells rfl rfl (opCells_one HC.out.2.2.tx.isSl HC.out.2.2.keep.isSl) (fun _ => rfl) (fun _ => rfl) ?_
      intro w6 r6 s6 b6
      obtain ⟨go, hgo⟩ : ∃ go, go = wr.heap.size := ⟨_, rfl⟩
      rw [← hgo] at r6 s6 ⊢
      have R6 : Hid (Row w6 go 33 o.cells ∧ LawD w w6 c gd gw g m [40] 0 40 S E D nv dims (6000 + 20000 * k) (10 * k)) := ⟨r6, HI.out.bel b6⟩
      have RO : Hid (OpR w6 (Fr3 c 2 gd gw) o.k o.N o.txv o.kv o.L o.ks) := HC.out.2.2.at R6.out.2.below R6.out.2.fr3
      clear r6 s6 b6 hgo HC HI
      simp only [Act.put, List.setIfInBounds_toArray, List.set_cons_succ, List.set_cons_zero]
      refine wpList_nil ?_
      go_upto_region 14 with fail
      refine wp_region_lit ?_
      refine wl_mv (.tmp 7) rfl rfl (ptr gd) rfl ?_
      simp only [Act.put, List.setIfInBounds_toArray, List.set_cons_succ, List.set_cons_zero]
      refine wl_ldA agg33 (.tmp 9) rfl rfl go 0 rfl o.cells rfl (fun j v hj => by rw [Nat.zero_add]; exact R6.out.1.at j v hj) ?_
      simp only [Act.put, List.setIfInBounds_toArray, List.set_cons_succ, List.set_cons_zero]
      refine wpList_callF eN13 [.tmp 38, .tmp 39] _ rfl rfl [(ptr gd), (.agg o.cells.toArray)] rfl ?_
      refine (R6.out.2.does (by omega) (by omega) RO.out).mono ?_
      rintro e w8 ⟨rfl, c8, gw8, m8, S8, E8, D8, nv8, d8, q1, _⟩
      refine ⟨_, rfl, ?_⟩
      have R8 : Hid (LawD w w8 c8 gd gw8 g m8 [40] 0 40 S8 E8 D8 nv8 d8 (6000 + 20000 * (k + 1)) (10 * (k + 1))) := q1
      clear q1 R6 RO
      simp only [Act.put, List.setIfInBounds_toArray, List.set_cons_succ, List.set_cons_zero]
      refine wl_as (.tmp 40) rfl rfl (.bool true) rfl ?_
      simp only [Act.put, List.setIfInBounds_toArray, List.set_cons_succ, List.set_cons_zero]
      refine wpList_nil ?_
      go_wp2_with fail
      refine ⟨⟨k + 1, c8, gw8, m8, S8, E8, D8, nv8, d8, by go_num, by omega, R8.out⟩, ?_⟩
      simp [intOf]; omega
    · obtain rfl : ln = k := by omega
      have t1 : decide ((ln : Int) < (ln : Int)) = false := decide_eq_false (by omega)
      obtain ⟨us, hB⟩ := HI.out.rest
      have RB : Hid (LawB w wr c gd g m [40] 0 40 D (ptr gw) nv us (costs D) dims (6000 + 20000 * ln) (10 * ln)) := hB
      clear hB HI
      go_upto_region 17 with (refine wl_sl sl22 (.tmp 29) rfl rfl p ln cap rfl ?_)
      refine wp_region_lit ?_
      refine wl_mv (.tmp 6) rfl rfl (ptr g) rfl ?_
      simp only [Act.put, List.setIfInBounds_toArray, List.set_cons_succ, List.set_cons_zero]
      refine wpList_callF eN15 [.tmp 43, .const (.slice none 0 0)] _ rfl rfl [ptr g, .slice none 0 0] rfl ?_
      refine (RB.out.boot (by omega) _ [] (KeepX.nil _ _)).mono ?_
      rintro e w7 ⟨rfl, c7, q1, _, _⟩
      refine ⟨_, rfl, ?_⟩
      obtain ⟨m7, hm7⟩ : ∃ m7, m7 = m.boot [] := ⟨_, rfl⟩
      have R7 : Hid (Sw w w7 c7 g 40 m7 (6000 + 20000 * ln) ∧ m7.on = true ∧ m7.fuse < 0) := by rw [hm7]; exact ⟨⟨q1.dk.live, q1.dk.tab, q1.cc, q1.below, q1.dk.shape, q1.le, tab_lt HT.out⟩, rfl, (by decide : (-1 : Int) < 0)⟩
      clear q1 RB hm7
      simp only [Act.put, List.setIfInBounds_toArray, List.set_cons_succ, List.set_cons_zero]
      refine wpList_nil ?_
      go_upto_region 18 with fail
      go_wp2_with fail
      rename World => W7
      go_loopw [11] (fun vi W => ∃ (k : Nat) (c : Nat → Colour) (m : Pl), vi = .int .i64 (k : Nat) ∧ k ≤ bn ∧ Sw w W c g 40 m (6000 + 20000 * ln) ∧ m.on = true ∧ m.fuse < 0) (fun vi _ => bn - (intOf vi).toNat)
      case atStart => exact ⟨0, c7, m7, rfl, Nat.zero_le _, R7.out⟩
      case round =>
        obtain ⟨k, c, m, rfl, hk, hI⟩ := hrel
        have HI : Hid (Sw w wr c g 40 m (6000 + 20000 * ln) ∧ m.on = true ∧ m.fuse < 0) := hI
        clear hI R7
        by_cases hlt : k < bn
        · have t1 : decide ((k : Int) < (bn : Int)) = true := decide_eq_true (by omega)
          obtain ⟨x, hx, b, off, hp, hcl⟩ := HBT.out k hlt
          obtain ⟨x0, x1, x2⟩ := x
          have HC : Hid (bp = some ⟨b, off, none⟩ ∧ ∀ W, Below w.heap.size w W → W.cell? ⟨b, off + k * 3 + 0, none⟩ = some (.int .i64 x0) ∧ W.cell? ⟨b, off + k * 3 + 1, none⟩ = some (.int .i64 x1) ∧ W.cell? ⟨b, off + k * 3 + 2, none⟩ = some (.int .i64 x2)) := ⟨hp, hcl⟩
          obtain ⟨a0, ha0⟩ : ∃ a0, a0 = whichOf x0 40 := ⟨_, rfl⟩
          obtain ⟨a1, ha1⟩ : ∃ a1, a1 = whichOf x1 64 := ⟨_, rfl⟩
          have HW0 : Hid (∀ W, Calls Tryd.prog 10 #[.int .i64 x0, .int .i64 40] W fun e w' => e = .returned (.int .i64 (a0 : Nat)) ∧ W = w') := fun W => by rw [ha0]; exact which_any W x0 40 (by decide) hx.1.1 hx.1.2
          have HW1 : Hid (∀ W, Calls Tryd.prog 10 #[.int .i64 x1, .int .i64 64] W fun e w' => e = .returned (.int .i64 (a1 : Nat)) ∧ W = w') := fun W => by rw [ha1]; exact which_any W x1 64 (by decide) hx.2.1 hx.2.2
          clear hx hp hcl ha0 ha1
          go_upto_region 21 with (refine wl_sl sl61 (.tmp 46) rfl rfl bp bn bc rfl ?_)
          refine wp_region_held (S := fun X => X.cell? ⟨b, off + k * 3 + 0, none⟩ = some (.int .i64 x0) ∧ X.cell? ⟨b, off + k * 3 + 1, none⟩ = some (.int .i64 x1) ∧ X.cell? ⟨b, off + k * 3 + 2, none⟩ = some (.int .i64 x2)) (by kernel_rfl) ?_
          show wpAnyH _ _ _ _ _ 19 (Array.replicate 19 false) _ _
          obtain ⟨X, hX⟩ : ∃ X : World, X = { wr with drawn := wr.drawn + 1 } := ⟨_, rfl⟩
          rw [← hX]
          have hbX : Below wr.heap.size wr X := by rw [hX]; exact ⟨rfl, rfl, rfl, Nat.le_refl _, fun _ _ => rfl⟩
          have RX : Hid (Sw w X c g 40 m (6000 + 20000 * ln)) := HI.out.1.bel hbX
          have hS0 : X.cell? ⟨b, off + k * 3 + 0, none⟩ = some (.int .i64 x0) ∧ X.cell? ⟨b, off + k * 3 + 1, none⟩ = some (.int .i64 x1) ∧ X.cell? ⟨b, off + k * 3 + 2, none⟩ = some (.int .i64 x2) := HC.out.2 X RX.out.below
          clear hX hbX
          refine takeH (i := 0) (some 51) rfl rfl (by kernel_rfl) (by kernel_rfl) (by kernel_rfl) (fun _ _ _ h => h) (gMove rfl (.tmp 6) rfl (ptr g) rfl) hS0 ?_
          simp only [Act.put, List.setIfInBounds_toArray, List.set_cons_succ, List.set_cons_zero]
          refine takeH (i := 1) (some 52) rfl rfl (by kernel_rfl) (by kernel_rfl) (by kernel_rfl) (fun _ _ _ h => h) (gMove rfl (.tmp 1) rfl (.slice bp bn bc) rfl) hS0 ?_
          simp only [Act.put, List.setIfInBounds_toArray, List.set_cons_succ, List.set_cons_zero]
          refine takeH (i := 2) (some 53) rfl rfl (by kernel_rfl) (by kernel_rfl) (by kernel_rfl) (fun _ _ _ h => h) (gMove rfl (.tmp 11) rfl (.int .i64 (k : Nat)) rfl) hS0 ?_
          simp only [Act.put, List.setIfInBounds_toArray, List.set_cons_succ, List.set_cons_zero]
          refine takeH (i := 3) (some 54) rfl rfl (by kernel_rfl) (by kernel_rfl) (by kernel_rfl) (fun _ _ _ h => h) (gIx rfl (.tmp 52) (.tmp 53) rfl (.slice bp bn bc) (.pointer (some ⟨b, off + k * 3, none⟩)) (.int .i64 (k : Nat)) rfl rfl (fun w' => by rw [HC.out.1]; exact idx61 b off bn bc k hlt w')) hS0 ?_
          simp only [Act.put, List.setIfInBounds_toArray, List.set_cons_succ, List.set_cons_zero]
          refine takeH (i := 4) (some 55) rfl rfl (by kernel_rfl) (by kernel_rfl) (by kernel_rfl) (fun _ _ _ h => h) (gField f64_0 rfl (.tmp 54) rfl b (off + k * 3) rfl) hS0 ?_
          simp only [Act.put, List.setIfInBounds_toArray, List.set_cons_succ, List.set_cons_zero]
          refine takeH (i := 5) (some 56) rfl rfl (by kernel_rfl) (by kernel_rfl) (by kernel_rfl) (fun _ _ _ h => h) (gLoad o3' rfl (.tmp 55) rfl b (off + k * 3 + 0) rfl (.int .i64 x0) (fun _ h => h.1)) hS0 ?_
          simp only [Act.put, List.setIfInBounds_toArray, List.set_cons_succ, List.set_cons_zero]
          refine takeH (i := 7) (some 58) rfl rfl (by kernel_rfl) (by kernel_rfl) (by kernel_rfl) (fun _ _ _ h => h) (gMove rfl (.tmp 1) rfl (.slice bp bn bc) rfl) hS0 ?_
          simp only [Act.put, List.setIfInBounds_toArray, List.set_cons_succ, List.set_cons_zero]
          refine takeH (i := 8) (some 59) rfl rfl (by kernel_rfl) (by kernel_rfl) (by kernel_rfl) (fun _ _ _ h => h) (gMove rfl (.tmp 11) rfl (.int .i64 (k : Nat)) rfl) hS0 ?_
          simp only [Act.put, List.setIfInBounds_toArray, List.set_cons_succ, List.set_cons_zero]
          refine takeH (i := 9) (some 60) rfl rfl (by kernel_rfl) (by kernel_rfl) (by kernel_rfl) (fun _ _ _ h => h) (gIx rfl (.tmp 58) (.tmp 59) rfl (.slice bp bn bc) (.pointer (some ⟨b, off + k * 3, none⟩)) (.int .i64 (k : Nat)) rfl rfl (fun w' => by rw [HC.out.1]; exact idx61 b off bn bc k hlt w')) hS0 ?_
          simp only [Act.put, List.setIfInBounds_toArray, List.set_cons_succ, List.set_cons_zero]
          refine takeH (i := 10) (some 61) rfl rfl (by kernel_rfl) (by kernel_rfl) (by kernel_rfl) (fun _ _ _ h => h) (gField f64_1 rfl (.tmp 60) rfl b (off + k * 3) rfl) hS0 ?_
          simp only [Act.put, List.setIfInBounds_toArray, List.set_cons_succ, List.set_cons_zero]
          refine takeH (i := 11) (some 62) rfl rfl (by kernel_rfl) (by kernel_rfl) (by kernel_rfl) (fun _ _ _ h => h) (gLoad o3' rfl (.tmp 61) rfl b (off + k * 3 + 1) rfl (.int .i64 x1) (fun _ h => h.2.1)) hS0 ?_
          simp only [Act.put, List.setIfInBounds_toArray, List.set_cons_succ, List.set_cons_zero]
          refine takeH (i := 13) (some 64) rfl rfl (by kernel_rfl) (by kernel_rfl) (by kernel_rfl) (fun _ _ _ h => h) (gMove rfl (.tmp 1) rfl (.slice bp bn bc) rfl) hS0 ?_
          simp only [Act.put, List.setIfInBounds_toArray, List.set_cons_succ, List.set_cons_zero]
          refine takeH (i := 14) (some 65) rfl rfl (by kernel_rfl) (by kernel_rfl) (by kernel_rfl) (fun _ _ _ h => h) (gMove rfl (.tmp 11) rfl (.int .i64 (k : Nat)) rfl) hS0 ?_
          simp only [Act.put, List.setIfInBounds_toArray, List.set_cons_succ, List.set_cons_zero]
          refine takeH (i := 15) (some 66) rfl rfl (by kernel_rfl) (by kernel_rfl) (by kernel_rfl) (fun _ _ _ h => h) (gIx rfl (.tmp 64) (.tmp 65) rfl (.slice bp bn bc) (.pointer (some ⟨b, off + k * 3, none⟩)) (.int .i64 (k : Nat)) rfl rfl (fun w' => by rw [HC.out.1]; exact idx61 b off bn bc k hlt w')) hS0 ?_
          simp only [Act.put, List.setIfInBounds_toArray, List.set_cons_succ, List.set_cons_zero]
          refine takeH (i := 16) (some 67) rfl rfl (by kernel_rfl) (by kernel_rfl) (by kernel_rfl) (fun _ _ _ h => h) (gField f64_2 rfl (.tmp 66) rfl b (off + k * 3) rfl) hS0 ?_
          simp only [Act.put, List.setIfInBounds_toArray, List.set_cons_succ, List.set_cons_zero]
          refine takeH (i := 17) (some 68) rfl rfl (by kernel_rfl) (by kernel_rfl) (by kernel_rfl) (fun _ _ _ h => h) (gLoad o3' rfl (.tmp 67) rfl b (off + k * 3 + 2) rfl (.int .i64 x2) (fun _ h => h.2.2)) hS0 ?_
          simp only [Act.put, List.setIfInBounds_toArray, List.set_cons_succ, List.set_cons_zero]
          refine oneH (i := 6) (by kernel_rfl) ?_
          refine opCallA (some 57) rfl rfl rfl 10 _ (run_call eN10 [.tmp 56, .const (.int .i64 40)] _ rfl [.int .i64 x0, .int .i64 40] rfl) ?_
          refine (HW0.out X).mono ?_
          rintro e X2 ⟨rfl, hX2⟩
          subst hX2
          refine ⟨_, rfl, ?_⟩
          refine ⟨hS0, ?_⟩
          simp only [Act.put, List.setIfInBounds_toArray, List.set_cons_succ, List.set_cons_zero]
          refine oneH (i := 12) (by kernel_rfl) ?_
          refine opCallA (some 63) rfl rfl rfl 10 _ (run_call eN10 [.tmp 62, .const (.int .i64 64)] _ rfl [.int .i64 x1, .int .i64 64] rfl) ?_
          refine (HW1.out X).mono ?_
          rintro e X2 ⟨rfl, hX2⟩
          subst hX2
          refine ⟨_, rfl, ?_⟩
          refine ⟨hS0, ?_⟩
          simp only [Act.put, List.setIfInBounds_toArray, List.set_cons_succ, List.set_cons_zero]
          clear hS0
          refine oneH (i := 18) (by kernel_rfl) ?_
          refine opCallA (some 69) rfl rfl rfl 23 _ (run_call eN23 [.tmp 51, .const (.int .i64 0), .tmp 57, .tmp 63, .tmp 68] _ rfl [ptr g, .int .i64 0, .int .i64 (a0 : Nat), .int .i64 (a1 : Nat), .int .i64 x2] rfl) ?_
          refine (RX.out.live.rot 0 (a0 : Nat) (a1 : Nat) x2).mono ?_
          rintro e w8 ⟨rfl, hnx⟩
          refine ⟨_, rfl, ?_⟩
          obtain ⟨c8, q1, q2, q3⟩ := hnx.nx
          have hrs := rot_same m 0 (a0 : Nat) (a1 : Nat) x2
          obtain ⟨m8, hm8⟩ : ∃ m8, m8 = (m.rot 0 (a0 : Nat) (a1 : Nat) x2).2 := ⟨_, rfl⟩
          rw [← hm8] at q2 hrs
          have R8 : Hid (Sw w w8 c8 g 40 m8 (6000 + 20000 * ln) ∧ m8.on = true ∧ m8.fuse < 0) := ⟨RX.out.nx q1 q2 q3 hrs.1 (by rw [hrs.2.2.2]; exact RX.out.le), by rw [hrs.2.1]; exact HI.out.2.1, by rw [hrs.2.2.1]; exact HI.out.2.2⟩
          have hS8 : w8.cell? ⟨b, off + k * 3 + 0, none⟩ = some (.int .i64 x0) ∧ w8.cell? ⟨b, off + k * 3 + 1, none⟩ = some (.int .i64 x1) ∧ w8.cell? ⟨b, off + k * 3 + 2, none⟩ = some (.int .i64 x2) := HC.out.2 w8 R8.out.1.below
          clear q1 q2 q3 hnx hrs hm8 RX HI
          refine ⟨hS8, ?_⟩
          simp only [Act.put, List.setIfInBounds_toArray, List.set_cons_succ, List.set_cons_zero]
          clear hS8
          refine wpAnyH_done (by kernel_rfl) ?_ _
          go_wp2_with fail
          refine ⟨⟨k + 1, c8, m8, by go_num, by omega, R8.out⟩, ?_⟩
          simp [intOf]; omega
        · obtain rfl : bn = k := by omega
          have t1 : decide ((bn : Int) < (bn : Int)) = false := decide_eq_false (by omega)
          have HOF : Hid (Calls Tryd.prog 20 #[ptr g, .int .i64 0] wr fun e W' => (e = .returned (.tuple #[.pointer none, .slice none 0 0, .int .i64 4]) ∧ Below w.heap.size w W') ∨ ∃ gw p cap S E D c' m', e = .returned (.tuple #[ptr gw, .slice p D.length cap, .int .i64 0]) ∧ Sw w W' c' g 40 m' (6000 + 20000 * ln + 2) ∧ wr.heap.size ≤ gw ∧ WalAt W' c' 2 gw g (0 : Nat) S E ∧ E ≤ 4096 ∧ S < 9223372036854775806 ∧ m'.on = true ∧ m'.fuse < 0 ∧ TxsIn W' (.slice p D.length cap) D ∧ D.length ≤ 4200 ∧ ∀ L ∈ D, longTx L = false) := open_far HI.out.1 (by omega) (by decide) HI.out.2.1 HI.out.2.2
          have hwz := HI.out.1.below.size
          have HWZ : Hid (w.heap.size ≤ wr.heap.size) := hwz
          clear HI hwz
          go_upto_region 22 with (refine wl_sl sl61 (.tmp 46) rfl rfl bp bn bc rfl ?_)
          refine wp_region_lit ?_
          refine wl_mv (.tmp 6) rfl rfl (ptr g) rfl ?_
          simp only [Act.put, List.setIfInBounds_toArray, List.set_cons_succ, List.set_cons_zero]
          refine wpList_callF eN20 [.tmp 71, .const (.int .i64 0)] _ rfl rfl [ptr g, .int .i64 0] rfl ?_
          refine HOF.out.mono ?_
          rintro e w9 he
          clear HOF
          rcases he with ⟨rfl, hb9⟩ | ⟨ga, pa, ca, Sa, Ea, Da, c9, m9, rfl, q1, q2, q3, q4, q5, q6, q7, q8, q9, q10⟩
          · have R9 : Hid (Below w.heap.size w w9) := hb9
            clear hb9
            refine ⟨_, rfl, ?_⟩
            simp only [Act.put, List.setIfInBounds_toArray, List.set_cons_succ, List.set_cons_zero]
            refine wl_mv (.tmp 72) rfl rfl (.tuple #[(.pointer none), (.slice none 0 0), (.int .i64 4)]) rfl ?_
            simp only [Act.put, List.setIfInBounds_toArray, List.set_cons_succ, List.set_cons_zero]
            refine wl_ext (.tmp 70) 0 rfl rfl #[(.pointer none), (.slice none 0 0), (.int .i64 4)] rfl (.pointer none) rfl ?_
            simp only [Act.put, List.setIfInBounds_toArray, List.set_cons_succ, List.set_cons_zero]
            refine wl_ext (.tmp 70) 1 rfl rfl #[(.pointer none), (.slice none 0 0), (.int .i64 4)] rfl (.slice none 0 0) rfl ?_
            simp only [Act.put, List.setIfInBounds_toArray, List.set_cons_succ, List.set_cons_zero]
            refine wl_ext (.tmp 70) 2 rfl rfl #[(.pointer none), (.slice none 0 0), (.int .i64 4)] rfl (.int .i64 4) rfl ?_
            simp only [Act.put, List.setIfInBounds_toArray, List.set_cons_succ, List.set_cons_zero]
            refine wl_as (.tmp 73) rfl rfl (.pointer none) rfl ?_
            simp only [Act.put, List.setIfInBounds_toArray, List.set_cons_succ, List.set_cons_zero]
            refine wl_as (.tmp 74) rfl rfl (.slice none 0 0) rfl ?_
            simp only [Act.put, List.setIfInBounds_toArray, List.set_cons_succ, List.set_cons_zero]
            refine wl_as (.tmp 75) rfl rfl (.int .i64 4) rfl ?_
            simp only [Act.put, List.setIfInBounds_toArray, List.set_cons_succ, List.set_cons_zero]
            refine wpList_nil ?_
            go_wp2_with (refine wl_sl sl38 (.tmp 88) rfl rfl none 0 0 rfl ?_)
            rw [HPQ.out]
            exact ⟨rfl, R9.out⟩
          · obtain ⟨dn, hdn⟩ : ∃ dn, dn = Da.length := ⟨_, rfl⟩
            rw [← hdn] at q8 ⊢
            have hdl : dn ≤ 4200 := by omega
            have HDN : Hid (dn = Da.length) := hdn
            have R9 : Hid (Sw w w9 c9 g 40 m9 (6000 + 20000 * ln + 2) ∧ w.heap.size ≤ ga ∧ WalAt w9 c9 2 ga g (0 : Nat) Sa Ea ∧ Ea ≤ 4096 ∧ Sa < 9223372036854775806 ∧ m9.on = true ∧ m9.fuse < 0 ∧ TxsIn w9 (.slice pa dn ca) Da ∧ ∀ L ∈ Da, longTx L = false) := ⟨q1, Nat.le_trans HWZ.out q2, q3, q4, q5, q6, q7, q8, q10⟩
            clear q1 q2 q3 q4 q5 q6 q7 q8 q9 q10 hdn
            refine ⟨_, rfl, ?_⟩
            simp only [Act.put, List.setIfInBounds_toArray, List.set_cons_succ, List.set_cons_zero]
            refine wl_mv (.tmp 72) rfl rfl (.tuple #[(ptr ga), (.slice pa dn ca), (.int .i64 0)]) rfl ?_
            simp only [Act.put, List.setIfInBounds_toArray, List.set_cons_succ, List.set_cons_zero]
            refine wl_ext (.tmp 70) 0 rfl rfl #[(ptr ga), (.slice pa dn ca), (.int .i64 0)] rfl (ptr ga) rfl ?_
            simp only [Act.put, List.setIfInBounds_toArray, List.set_cons_succ, List.set_cons_zero]
            refine wl_ext (.tmp 70) 1 rfl rfl #[(ptr ga), (.slice pa dn ca), (.int .i64 0)] rfl (.slice pa dn ca) rfl ?_
            simp only [Act.put, List.setIfInBounds_toArray, List.set_cons_succ, List.set_cons_zero]
            refine wl_ext (.tmp 70) 2 rfl rfl #[(ptr ga), (.slice pa dn ca), (.int .i64 0)] rfl (.int .i64 0) rfl ?_
            simp only [Act.put, List.setIfInBounds_toArray, List.set_cons_succ, List.set_cons_zero]
            refine wl_as (.tmp 73) rfl rfl (ptr ga) rfl ?_
            simp only [Act.put, List.setIfInBounds_toArray, List.set_cons_succ, List.set_cons_zero]
            refine wl_as (.tmp 74) rfl rfl (.slice pa dn ca) rfl ?_
            simp only [Act.put, List.setIfInBounds_toArray, List.set_cons_succ, List.set_cons_zero]
            refine wl_as (.tmp 75) rfl rfl (.int .i64 0) rfl ?_
            simp only [Act.put, List.setIfInBounds_toArray, List.set_cons_succ, List.set_cons_zero]
            refine wpList_nil ?_
            go_upto_region 27 with fail
            go_wp2_with fail
            go_loopw [15] (fun vi W => ∃ k : Nat, vi = .int .i64 (k : Nat) ∧ k ≤ dn ∧ Below w9.heap.size w9 W) (fun vi _ => dn - (intOf vi).toNat)
            case atStart => exact ⟨0, rfl, Nat.zero_le _, Below.refl _ _⟩
            case round =>
              obtain ⟨k, rfl, hk, hI⟩ := hrel
              have HJ : Hid (Below w9.heap.size w9 wr) := hI
              clear hI
              by_cases hlt : k < dn
              · have t1 : decide ((k : Int) < (dn : Int)) = true := decide_eq_true (by omega)
                have hkl : k < Da.length := by rw [← HDN.out]; exact hlt
                obtain ⟨b, off, u, hpa, hc, hu⟩ := R9.out.2.2.2.2.2.2.2.1.at k hkl
                have hu2 := hu.heap (W := wr) fun b hb => HJ.out.block b hb
                have hc2 : wr.cell? ⟨b, off + k, none⟩ = some u := by rw [← hc]; exact World.cell?_of_block (HJ.out.block b (block_lt_of_cell hc))
                have hnl := R9.out.2.2.2.2.2.2.2.2 _ (getD_mem (d := []) hkl)
                have HLG : Hid (Calls Tryd.prog 24 #[u] wr fun e w' => e = .returned (.bool false) ∧ wr = w') := by
                  have := longR_any wr u _ hu2 (by have := (notLong hnl).2.1; omega)
                  rw [hnl] at this
                  exact this
                have HPA : Hid (pa = some ⟨b, off, none⟩) := hpa
                clear hkl hpa hc hu hu2 hnl
                go_wp2_with (first
                  | (refine wl_sl sl38 (.tmp 95) rfl rfl pa dn ca rfl ?_)
                  | (refine wl_ix (.tmp 100) (.tmp 101) rfl rfl (.slice pa dn ca) (.pointer (some ⟨b, off + k, none⟩)) (.int .i64 (k : Nat)) rfl rfl (fun w' => by rw [HPA.out]; exact idx38 b off dn ca k hlt w') ?_)
                  | (go_at_call 24; refine HLG.out.mono ?_; rintro e wx ⟨rfl, hwx⟩; subst hwx))
                refine ⟨⟨k + 1, by go_num, by omega, HJ.out⟩, ?_⟩
                simp [intOf]; omega
              · obtain rfl : dn = k := by omega
                have t1 : decide ((dn : Int) < (dn : Int)) = false := decide_eq_false (by omega)
                go_upto_region 32 with (refine wl_sl sl38 (.tmp 95) rfl rfl pa dn ca rfl ?_)
                have RW : Hid (Sw w wr c9 g 40 m9 (6000 + 20000 * ln + 2) ∧ WalAt wr c9 2 ga g (0 : Nat) Sa Ea) := ⟨R9.out.1.bel HJ.out, R9.out.2.2.1.below HJ.out⟩
                clear HJ
                refine wp_region_lit ?_
                refine wl_mv (.tmp 12) rfl rfl (ptr ga) rfl ?_
                simp only [Act.put, List.setIfInBounds_toArray, List.set_cons_succ, List.set_cons_zero]
                refine lit51b 1 rfl rfl ?_
                obtain ⟨x1, hx1⟩ : ∃ x1, x1 = wr.alloc (.cells #[.int .u8 ((1 : Nat) : Int)] 5) := ⟨_, rfl⟩
                obtain ⟨gx1, hgx1⟩ : ∃ gx1, gx1 = wr.heap.size := ⟨_, rfl⟩
                have bx1 : Below wr.heap.size wr x1 := by rw [hx1]; exact below_alloc wr _
                have sx1 : SliceIn x1 (.slice (some ⟨gx1, 0, none⟩) 1 1) [1] := by rw [hx1, hgx1]; exact one_byte (by decide) (Below.refl _ _)
                rw [← hx1, ← hgx1]
                simp only [Act.put, List.setIfInBounds_toArray, List.set_cons_succ, List.set_cons_zero]
                refine wl rfl _ _ (run_lit30 (.tmp 106) rfl (.slice (some ⟨gx1, 0, none⟩) 1 1) ⟨_, _, _, rfl⟩ rfl) ?_
                obtain ⟨x2, hx2⟩ : ∃ x2, x2 = x1.alloc (.cells #[.slice (some ⟨gx1, 0, none⟩) 1 1] 51) := ⟨_, rfl⟩
                obtain ⟨gx2, hgx2⟩ : ∃ gx2, gx2 = x1.heap.size := ⟨_, rfl⟩
                have bx2 : Below x1.heap.size x1 x2 := by rw [hx2]; exact below_alloc x1 _
                have rx2 : RowsIn x2 (.slice (some ⟨gx2, 0, none⟩) 1 1) [[1]] := by rw [hx2, hgx2]; exact rows_one sx1
                rw [← hx2, ← hgx2]
                have RX : Hid (Below wr.heap.size wr x2 ∧ RowsIn x2 (.slice (some ⟨gx2, 0, none⟩) 1 1) [[1]]) := ⟨bx1.trans (bx2.mono bx1.size), rx2⟩
                clear hx1 hgx1 bx1 sx1 hx2 hgx2 bx2 rx2
                simp only [Act.put, List.setIfInBounds_toArray, List.set_cons_succ, List.set_cons_zero]
                refine wpList_callF eN21 [.tmp 105, .tmp 107] _ rfl rfl [(ptr ga), (.slice (some ⟨gx2, 0, none⟩) 1 1)] rfl ?_
                have hS2 := RW.out.1.bel RX.out.1
                have hlv := hS2.lv R9.out.2.2.2.2.2.1
                have hle := hS2.le
                refine (append_any' hS2.live 0 Sa Ea (RW.out.2.below RX.out.1) (by omega) hS2.shape (by simp) (show 1 ≤ 40 by decide) (by have := R9.out.2.2.2.1; omega) _ [[1]] RX.out.2 (by decide)).mono ?_
                rintro e wa ⟨rfl, ca', k1, k2, k3, k4⟩
                refine ⟨_, rfl, ?_⟩
                have hap := app_far hlv.1 hlv.2 (by decide) R9.out.2.2.2.2.2.2.1 Sa Ea [[1]] RX.out.2.mem (by decide)
                have hgn : [40].getD 0 0 = 40 := rfl
                rw [hgn] at k2 k4 ⊢
                obtain ⟨er, her⟩ : ∃ er, er = (m9.app 0 Sa Ea 40 [[1]]).1 := ⟨_, rfl⟩
                obtain ⟨ma, hma⟩ : ∃ ma, ma = (m9.app 0 Sa Ea 40 [[1]]).2.1 := ⟨_, rfl⟩
                obtain ⟨ua, hua⟩ : ∃ ua, ua = (m9.app 0 Sa Ea 40 [[1]]).2.2 := ⟨_, rfl⟩
                rw [← her, ← hma] at hap
                rw [← hma] at k2
                rw [← hua] at k4
                rw [← her]
                have hsw : Sw w wa ca' g 40 ma (6000 + 20000 * ln + 102) := hS2.next k1 k2 k3 R9.out.2.1 hap.2.1 (by have := hap.2.2.2.2; omega)
                have RA : Hid (Sw w wa ca' g 40 ma (6000 + 20000 * ln + 102) ∧ WalAt wa ca' 2 ga g (0 : Nat) Sa ua ∧ ma.on = true ∧ ma.fuse < 0 ∧ (er = 0 ∨ er = 3)) := ⟨hsw, k4, hap.2.2.1, hap.2.2.2.1, hap.1⟩
                clear k1 k2 k3 k4 hap hgn her hma hua hsw hS2 hlv hle RX RW
                simp only [Act.put, List.setIfInBounds_toArray, List.set_cons_succ, List.set_cons_zero]
                refine wl_as (.tmp 108) rfl rfl (.int .i64 er) rfl ?_
                simp only [Act.put, List.setIfInBounds_toArray, List.set_cons_succ, List.set_cons_zero]
                refine wpList_nil ?_
                go_upto_region 33 with fail
                refine wp_region_lit ?_
                refine wl_mv (.tmp 12) rfl rfl (ptr ga) rfl ?_
                simp only [Act.put, List.setIfInBounds_toArray, List.set_cons_succ, List.set_cons_zero]
                refine wpList_callF eN25 [.tmp 109] _ rfl rfl [(ptr ga)] rfl ?_
                have hlv := RA.out.1.lv RA.out.2.2.1
                have htr := trunc_far hlv.1 hlv.2 (by decide) RA.out.2.2.2.1 Sa
                have hle := RA.out.1.le
                refine (truncate_far RA.out.1.live ((0 : Nat) : Int) Sa ua (by have := R9.out.2.2.2.2.1; omega) RA.out.2.1 (by omega)).mono ?_
                rintro e wb ⟨rfl, cb, k1, k2, k3, k4⟩
                refine ⟨_, rfl, ?_⟩
                rw [htr]
                have hz := RA.out.1.below.size
                have RBB : Hid (Below w.heap.size w wb) := RA.out.1.below.trans (k3.below hz fun b hb e => e.elim (fun e => by rw [RA.out.1.cc b hb] at e; exact absurd e (by decide)) (fun e => by have := R9.out.2.1; omega))
                clear k1 k2 k3 k4 hlv htr hle hz
                simp only [Act.put, List.setIfInBounds_toArray, List.set_cons_succ, List.set_cons_zero]
                refine wl_as (.tmp 110) rfl rfl (.int .i64 0) rfl ?_
                simp only [Act.put, List.setIfInBounds_toArray, List.set_cons_succ, List.set_cons_zero]
                refine wpList_nil ?_
                rcases RA.out.2.2.2.2 with he | he
                · subst he
                  go_wp2_with fail
                  rw [HPQ.out]
                  exact ⟨rfl, RBB.out⟩
                · subst he
                  go_wp2_with fail
                  rw [HPQ.out]
                  exact ⟨rfl, RBB.out⟩
end Go.Proofs.YtgcecejamcnkiaaDoor
namespace Go.Proofs.YtgcecejamcnkiaaDoor
open Go.ChangeShapes Go.WideShapes Go.ChangeAt Go.RowKit Go.Deep
theorem cells64 : Tryd.prog.cellsOf 64 = 3 := by kernel_rfl
theorem und64 : ∃ f0 f1 f2 : Field, Tryd.prog.underlying 64 = some (.struct #[f0, f1, f2]) ∧ (f0.type = 3 ∧ f0.offset = 0) ∧ (f1.type = 3 ∧ f1.offset = 1) ∧ (f2.type = 3 ∧ f2.offset = 2) :=
  ⟨_, _, _, Tryd.underlying64, ⟨rfl, rfl⟩, ⟨rfl, rfl⟩, rfl, rfl⟩
set_option maxRecDepth 100000 in
/-- one bit, from its three cells -/
theorem open_bit {H : Type} {enc : TypeId × Value → H} {W : World} {cs : List Value} {y : DataW H × List MemPlace} {n : Nat} (hf : DataW.trod enc Tryd.prog W 0 (fun _ => true) true n 64 cs = some y) : ∃ o : Int × Int × Int, cs = [.int .i64 o.1, .int .i64 o.2.1, .int .i64 o.2.2] ∧ (-9223372036854775808 ≤ o.1 ∧ o.1 ≤ 9223372036854775807) ∧ (-9223372036854775808 ≤ o.2.1 ∧ o.2.1 ≤ 9223372036854775807) := by
  obtain ⟨f0, f1, f2, hu, ⟨t0, o0⟩, ⟨t1, o1⟩, t2, o2⟩ := und64
  obtain ⟨xs, m, _, hxy, hl, hxl, hx⟩ := DataW.trod_struct hu hf
  rw [cells64] at hl
  match cs, hl, xs, hxl with
  | [v0, v1, v2], _, [y0, y1, y2], _ =>
    have g0 := hx 0 f0 rfl
    have g1 := hx 1 f1 rfl
    have g2 := hx 2 f2 rfl
    simp only [t0, t1, t2, o0, o1, o2, cells3] at g0 g1 g2
    simp at g0 g1 g2
    obtain ⟨z0, rfl, i0⟩ := open_i64 g0
    obtain ⟨z1, rfl, i1⟩ := open_i64 g1
    obtain ⟨z2, rfl, i2⟩ := open_i64 g2
    exact ⟨(z0, z1, z2), rfl, i0, i1⟩
set_option maxRecDepth 100000 in
/-- A SLICE OF BITS THAT CAME IN -/
theorem open_bits {H : Type} {enc : TypeId × Value → H} {W : World} {v : Value} {d : DataW H} {p : List MemPlace} {base : Nat}
    (hv : Value.okWide Tryd.prog W .any base 61 v) (h : DataW.Trod enc Tryd.prog W 0 (fun _ => true) true 61 v d p) (hk : Rows.uptoBulk d ≤ 1048576) : ∃ L, BitsIn W v L := by
  obtain ⟨a0, len0, cap0, rfl⟩ := okWide_slice Tryd.underlying61 hv
  obtain ⟨fuel, hf⟩ := h
  rcases open_slice Tryd.underlying61 hf with ⟨hcs, _⟩ | ⟨a, len, cap, m, n, D, Pl, hcs, _, hl, hm, hmm, hx, hrow⟩
  · simp [Value.cells] at hcs
    obtain ⟨rfl, rfl, rfl⟩ := hcs
    exact ⟨[], none, 0, rfl, by simp, fun x hx => (by cases hx), Or.inl rfl⟩
  · simp [Value.cells] at hcs
    obtain ⟨rfl, rfl, rfl⟩ := hcs
    have hd := congrArg Prod.fst hx
    simp only at hd
    rw [hd] at hk
    simp only [Rows.uptoBulk] at hk
    have hlm : len0 ≤ m := by rw [hmm]; split <;> omega
    have hb := bulk_length ((List.range len0).map D)
    rw [List.length_map, List.length_range] at hb
    obtain ⟨F, hF⟩ := choose_lt (α := Int × Int × Int) (n := len0) (p := fun i o => W.cells? 0 (a.add (i * 3)) 3 = some [.int .i64 o.1, .int .i64 o.2.1, .int .i64 o.2.2] ∧ (-9223372036854775808 ≤ o.1 ∧ o.1 ≤ 9223372036854775807) ∧ (-9223372036854775808 ≤ o.2.1 ∧ o.2.1 ≤ 9223372036854775807)) (fun i hi => by
      obtain ⟨cs', h1, h2⟩ := hrow i (by omega)
      rw [cells64] at h1
      obtain ⟨o, ho, hin⟩ := open_bit h2
      exact ⟨o, by rw [← ho]; exact h1, hin⟩)
    refine ⟨(List.range len0).map F, some a, cap0, by simp, by simp; omega, fun o ho => ?_, ?_⟩
    · obtain ⟨i, hi, rfl⟩ := List.mem_map.1 ho
      exact (hF i (List.mem_range.1 hi)).2
    · by_cases h0 : len0 = 0
      · subst h0
        exact Or.inl (by simp)
      · right
        obtain ⟨_, _, hcell0⟩ := World.cells?_some (hF 0 (by omega)).1
        have hplain : ∃ b off, a = ⟨b, off, none⟩ := by
          have h1 := hcell0 0 (by omega)
          obtain ⟨ab, ao, sp⟩ := a
          have h1' : W.cell? ⟨ab, ao, sp⟩ = some (.int .i64 (F 0).1) := by
            simpa [Addr.add] using h1
          have hsp : sp = none := by simpa [Addr.add] using World.cell?_spot h1'
          subst hsp
          exact ⟨ab, ao, rfl⟩
        obtain ⟨b, off, rfl⟩ := hplain
        refine ⟨b, off, rfl, fun i hi => ?_⟩
        rw [List.length_map, List.length_range] at hi
        obtain ⟨_, _, hcell⟩ := World.cells?_some (hF i hi).1
        have e : ((List.range len0).map F).getD i default = F i := by simp [hi]
        rw [e]
        have h0' := hcell 0 (by omega)
        have h1' := hcell 1 (by omega)
        have h2' := hcell 2 (by omega)
        rw [add_none, add_none] at h0' h1' h2'
        exact ⟨h0', h1', h2'⟩
end Go.Proofs.YtgcecejamcnkiaaDoor
