/-
  The reader: rows of names, lines that say nothing, the heading.
-/
import Derived.Test.YtoonnbagppliaaaDoorDRead2
namespace Go.Proofs.YtoonnbagppliaaaDoor
open Go.RowKit

theorem Tryd.info9 : (Tryd.prog.info? 9).map (fun i => (i.zero, i.size, i.bytes)) = some (some (.string ⟨#[]⟩), 1, 16) := by kernel_rfl

def slLen : Value → Nat
  | .slice _ m _ => m
  | _ => 0

def strsV (l : List ByteArray) : List Value := l.map Value.string

theorem strsV_one (l : List ByteArray) : ∀ u ∈ strsV l, u.oneCell' = true := by
  intro u hu
  obtain ⟨x, _, rfl⟩ := List.mem_map.1 hu
  rfl

def anyBad (l : List ByteArray) : Bool := l.any (fun s => !nameP s)
def rNames (r : RS) : List ByteArray × RS := ((rName r).1 :: (rName r).2.1, ([], (rName r).2.2 || anyBad (rName r).2.1))

theorem rName_cons (x : ByteArray) (t : List ByteArray) (b : Bool) : rName (x :: t, b) = (x, (t, b || !nameP x)) := rfl

set_option maxRecDepth 100000 in
set_option maxHeartbeats 2000000 in
theorem rnames_any (w : World) (B rb : Nat) (r : RS) (R : RdAt w B rb r) (hr : r.1.length ≤ 100000) :
    Calls Tryd.prog 52 #[.pointer (some ⟨rb, 0, none⟩)] w fun e w' => ∃ a c, e = .returned (.slice a (rNames r).1.length c) ∧ w'.ownsRow w.heap.size 9 1 (.slice a (rNames r).1.length c) (rNames r).1.length (strsV (rNames r).1) ∧ RdAt w' B rb (rNames r).2 ∧ Kept (fun j => j = rb) w w' := by
  obtain ⟨i0, hi0, hz0, hz1, hz2⟩ := info_parts Tryd.info9
  have h1 := rname_any w B rb r R
  have hlow := R.low
  have htop := R.top
  have hlen : (rName r).2.1.length ≤ 100000 := by
    unfold rName rWord
    obtain ⟨ws, b⟩ := r
    cases ws with
    | nil => simp
    | cons x t => simp at hr ⊢; omega
  unfold rNames
  clear R hr
  generalize (rName r).1 = x at *
  generalize (rName r).2 = q at *
  obtain ⟨ws, b⟩ := q
  simp only [] at hlen h1 ⊢
  go_enter Tryd.func52, Tryd.ntmps52
  go_wp2_with (first
    | (go_at_call 47; refine h1.mono ?_; rintro e w1 ⟨rfl, R1, K1⟩; have HR1 : Hid _ := R1; clear h1 R1; have hsz1 := K1.size)
    | fail)
  have HO : Hid ((w1.alloc (.cells #[.string x] 9)).ownsRow w.heap.size 9 1 (.slice (some ⟨w1.heap.size, 0, none⟩) 1 1) 1 (strsV [x])) := World.ownsRow_lit w1 #[.string x] 1 hsz1 (by simp [maxLen]) rfl
  go_loopw [3] (fun v wr => ∃ (a : Option Addr) (c : Nat) (l rest : List ByteArray) (b' : Bool), v = .slice a l.length c ∧ l ++ rest = x :: ws ∧ wr.ownsRow w.heap.size 9 1 (.slice a l.length c) l.length (strsV l) ∧ RdAt wr B rb (rest, b') ∧ (b' || anyBad rest) = (b || anyBad ws) ∧ Kept (fun j => j = rb) w wr) (fun v _ => ws.length + 1 - slLen v)
  case atStart => exact ⟨some ⟨w1.heap.size, 0, none⟩, 1, [x], ws, b, rfl, rfl, HO.out, HR1.out.kept (Kept.alloc (fun _ => False) _ _) (fun _ _ h => h), rfl, K1.and (Kept.alloc _ _ _)⟩
  case round =>
    obtain ⟨a, c, l, rest, b', rfl, hl, O, R, hb, K⟩ := hrel
    have hsz := K.size
    obtain ⟨ra, rc, c0, _, _, _, _, _⟩ := R.cells
    have hln : l.length + rest.length = ws.length + 1 := by
      have := congrArg List.length hl
      simpa using this
    cases rest with
    | nil =>
      rw [List.append_nil] at hl
      subst hl
      simp only [anyBad, List.any_nil, Bool.or_false] at hb
      have HR : Hid (RdAt wr B rb ([], b')) := R
      have HB : Hid (b' = (b || anyBad ws)) := hb
      simp only [List.length_nil] at c0
      clear R hb
      go_wp2
      go_ret
      refine ⟨a, c, ?_, ?_, ?_, K⟩
      · rfl
      · exact O
      · rw [← HB.out]; exact HR.out
    | cons y t =>
      have h2 := rname_any wr B rb (y :: t, b') R
      rw [rName_cons] at h2
      simp only [List.length_cons] at c0 hln
      have e1 : (0 : Int) < (t.length : Int) + 1 := by omega
      have HO2 : Hid (wr.ownsRow w.heap.size 9 1 (.slice a l.length c) l.length (strsV l)) := O
      have HB : Hid ((b' || !nameP y || anyBad t) = (b || anyBad ws)) := by
        show _ = _
        rw [← hb]
        simp [anyBad, Bool.or_assoc]
      have hblk : ∀ g, (Value.slice a l.length c).ownBlock = some g → g ≠ rb := fun g hg => by have := (O.lt g hg).1; omega
      have HC : Hid (∀ u ∈ [Value.string y], u.oneCell' = true) := strsV_one [y]
      clear R O hb
      generalize hq : (b' || !nameP y) = b2 at *
      go_wp2_with (first
        | (go_at_call 47; refine h2.mono ?_; rintro e w2 ⟨rfl, R2, K2⟩; have HR2 : Hid (RdAt w2 B rb (t, b2)) := R2; clear h2 R2; have hsz2 := K2.size; have HO3 : Hid (w2.ownsRow w.heap.size 9 1 (.slice a l.length c) l.length (strsV l)) := ownsRow_keep HO2.out (fun g hg => K2.block g (ownsRow_blk HO2.out hg) (hblk g hg)))
        | (at_builtin; refine wpList_append_src _ rfl _ _ 32 rfl w.heap.size 9 i0 _ 1 16 Tryd.underlying32 hi0 hz0 hz1 hz2 rfl (by decide) (.slice a l.length c) l.length _ rfl (HO3.out.alloc _) _ rfl 1 _ (.inl ⟨_, 1, rfl, rfl, World.news_of_block (heap_alloc_new _ _)⟩) HC.out (by unfold maxLen; omega) (by omega) (by simp; omega) ?_; intro a3 cap3 w3 ho3 hg3 _ hl3; have HO4 : Hid (w3.ownsRow w.heap.size 9 1 (.slice a3 (l.length + 1) cap3) (l.length + 1) (strsV (l ++ [y]))) := (by rw [show strsV (l ++ [y]) = strsV l ++ strsV [y] by simp [strsV]]; exact ho3); clear ho3)
        | fail)
      have KG : Kept (fun g => w.heap.size ≤ g) w2 w3 := (Kept.alloc _ _ _).and (Kept.grown hg3 (fun g e => (HO2.out.lt g e).1))
      go_roundw
      case rel =>
        refine ⟨a3, cap3, l ++ [y], t, b2, by simp, by rw [List.append_assoc]; exact hl, ?_, HR2.out.kept KG (fun k hk => by omega), HB.out, (K.and K2).trans KG (fun i h => .inr h)⟩
        rw [List.length_append, List.length_singleton]
        exact HO4.out
      case measure => simp [slLen]; omega

/-- The line says nothing. -/
def rSilent (r : RS) : Bool := match r.1 with
  | [] => true
  | x :: _ => x.data.toList.headD 0 == 35

theorem first_byte {s : ByteArray} (h0 : 0 < s.size) : s.data.toList.headD 0 = s[0]'h0 := by
  have hl : 0 < s.data.toList.length := by simpa using h0
  cases hs : s.data.toList with
  | nil => rw [hs] at hl; simp at hl
  | cons b r =>
    have : s.data.toList[0] = b := by simp [hs]
    rw [← this]
    rfl

set_option maxRecDepth 100000 in
set_option maxHeartbeats 1000000 in
theorem silent_any (w : World) (B rb : Nat) (r : RS) (R : RdAt w B rb r) (hne : ∀ s ∈ r.1, 0 < s.size) :
    Calls Tryd.prog 36 #[.pointer (some ⟨rb, 0, none⟩)] w fun e w' => e = .returned (.bool (rSilent r)) ∧ w' = w := by
  obtain ⟨ws, b⟩ := r
  cases ws with
  | nil =>
    obtain ⟨a, c, c0, _, _, _, _, _⟩ := R.cells
    unfold rSilent
    simp only [List.length_nil] at c0 ⊢
    clear R hne
    go_enter Tryd.func36, Tryd.ntmps36
    go_wp2
    go_ret
    exact ⟨rfl, rfl⟩
  | cons x t =>
    obtain ⟨ba, oa, c, c0, hc, cx, _, _⟩ := R.next
    have h0 : 0 < x.size := hne x (by simp)
    have hix : ∀ W, (Instr.index 9 (.string x) (.int .i64 0)).run Tryd.prog W = .ok (.int .u8 (((x[0]'h0).toNat : Nat) : Int)) W := fun W => by
      rw [run_index_string W _ _ _ _ Tryd.underlying9]
      rw [dif_pos ⟨by omega, by omega⟩]
      simp
    have hbq : ((((x[0]'h0).toNat : Nat) : Int) == 35) = (x.data.toList.headD 0 == 35) := by
      rw [first_byte h0, Bool.eq_iff_iff, beq_iff_eq, beq_iff_eq]
      constructor
      · intro h; apply UInt8.toNat_inj.1; show _ = 35; omega
      · intro h; rw [h]; rfl
    unfold rSilent
    simp only []
    have e1 : (1 : Int) ≤ (t.length : Int) + 1 := by omega
    have e3 : ((t.length : Int) + 1 == 0) = false := by simp; omega
    generalize (x.data.toList.headD 0 == 35) = y at *
    generalize (((x[0]'h0).toNat : Nat) : Int) = z at *
    clear R hne
    go_enter Tryd.func36, Tryd.ntmps36
    go_wp2
    go_ret
    refine ⟨?_, rfl⟩
    rw [← hbq]
    rfl

def wfB : ByteArray := ⟨#[119, 111, 114, 107, 102, 108, 111, 119]⟩
def rHead (r : RS) : ByteArray × RS :=
  ((rName ((rTake wfB r).2.1, (rTake wfB r).2.2 || !(rTake wfB r).1)).1, rEnd (rName ((rTake wfB r).2.1, (rTake wfB r).2.2 || !(rTake wfB r).1)).2)

set_option maxRecDepth 100000 in
set_option maxHeartbeats 1000000 in
theorem heading_any (w : World) (B rb : Nat) (r : RS) (R : RdAt w B rb r) :
    Calls Tryd.prog 37 #[.pointer (some ⟨rb, 0, none⟩)] w fun e w' => e = .returned (.string (rHead r).1) ∧ RdAt w' B rb (rHead r).2 ∧ Kept (fun j => j = rb) w w' := by
  have h1 := take_any w B rb r R wfB
  unfold rHead
  generalize (rTake wfB r).1 = t at *
  generalize (rTake wfB r).2 = q at *
  obtain ⟨ws, b⟩ := q
  have h2 := fun W (R : RdAt W B rb (ws, b)) => must_any W B rb ws b t R
  have h3 := fun W (R : RdAt W B rb (ws, b || !t)) => rname_any W B rb (ws, b || !t) R
  have h4 := fun W (R : RdAt W B rb (rName (ws, b || !t)).2) => end_any W B rb _ R
  simp only []
  generalize (rName (ws, b || !t)).1 = x at *
  generalize (rName (ws, b || !t)).2 = q at *
  generalize rEnd q = q2 at *
  unfold wfB at h1
  clear R
  go_enter Tryd.func37, Tryd.ntmps37
  go_wp2_with (first
    | (go_at_call 46; refine h1.mono ?_; rintro e w1 ⟨rfl, R1, K1⟩; have HR1 : Hid _ := R1; clear h1 R1)
    | (go_at_call 45; refine (h2 _ HR1.out).mono ?_; rintro e w2 ⟨rfl, R2, K2⟩; have HR2 : Hid _ := R2; clear h2 R2)
    | (go_at_call 47; refine (h3 _ HR2.out).mono ?_; rintro e w3 ⟨rfl, R3, K3⟩; have HR3 : Hid _ := R3; clear h3 R3)
    | (go_at_call 48; refine (h4 _ HR3.out).mono ?_; rintro e w4 ⟨rfl, R4, K4⟩; clear h4)
    | fail)
  go_ret
  exact ⟨rfl, R4, ((K1.and K2).and K3).and K4⟩

end Go.Proofs.YtoonnbagppliaaaDoor
