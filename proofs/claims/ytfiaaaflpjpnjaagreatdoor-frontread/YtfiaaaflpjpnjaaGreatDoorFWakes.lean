/-
  The laws' wakes.
-/
import Derived.Test.YtfiaaaflpjpnjaaGreatDoorFWake2
import Derived.Test.YtfiaaaflpjpnjaaGreatDoorFLayB
namespace Go.Proofs.YtfiaaaflpjpnjaaGreatDoor
open Go.RowKit

def rawA : Array Value := #[.int .u8 80, .int .u8 79, .int .u8 83, .int .u8 84, .int .u8 32, .int .u8 47, .int .u8 115, .int .u8 116, .int .u8 97, .int .u8 114, .int .u8 116, .int .u8 32, .int .u8 72, .int .u8 84, .int .u8 84, .int .u8 80, .int .u8 47, .int .u8 49, .int .u8 46, .int .u8 49, .int .u8 13, .int .u8 10, .int .u8 67, .int .u8 111, .int .u8 110, .int .u8 116, .int .u8 101, .int .u8 110, .int .u8 116, .int .u8 45, .int .u8 76, .int .u8 101, .int .u8 110, .int .u8 103, .int .u8 116, .int .u8 104, .int .u8 58, .int .u8 32, .int .u8 57, .int .u8 13, .int .u8 10, .int .u8 13, .int .u8 10, .int .u8 123, .int .u8 34, .int .u8 97, .int .u8 34, .int .u8 58, .int .u8 34, .int .u8 120, .int .u8 34, .int .u8 125]
def rawL : List Int := [80, 79, 83, 84, 32, 47, 115, 116, 97, 114, 116, 32, 72, 84, 84, 80, 47, 49, 46, 49, 13, 10, 67, 111, 110, 116, 101, 110, 116, 45, 76, 101, 110, 103, 116, 104, 58, 32, 57, 13, 10, 13, 10, 123, 34, 97, 34, 58, 34, 120, 34, 125]
def bPost : ByteArray := ⟨#[80, 79, 83, 84]⟩
def bStart : ByteArray := ⟨#[47, 115, 116, 97, 114, 116]⟩
def bRest : ByteArray := ⟨#[115, 116, 97, 114, 116]⟩
def bHttp : ByteArray := ⟨#[72, 84, 84, 80, 47, 49, 46, 49]⟩
def bLine0 : ByteArray := ⟨#[80, 79, 83, 84, 32, 47, 115, 116, 97, 114, 116, 32, 72, 84, 84, 80, 47, 49, 46, 49]⟩
def bName : ByteArray := ⟨#[67, 111, 110, 116, 101, 110, 116, 45, 76, 101, 110, 103, 116, 104]⟩
def bVal : ByteArray := ⟨#[32, 57]⟩
def bNine : ByteArray := ⟨#[57]⟩
def bLine1 : ByteArray := ⟨#[67, 111, 110, 116, 101, 110, 116, 45, 76, 101, 110, 103, 116, 104, 58, 32, 57]⟩
def bHead : ByteArray := ⟨#[80, 79, 83, 84, 32, 47, 115, 116, 97, 114, 116, 32, 72, 84, 84, 80, 47, 49, 46, 49, 13, 10, 67, 111, 110, 116, 101, 110, 116, 45, 76, 101, 110, 103, 116, 104, 58, 32, 57]⟩
def bBody : ByteArray := ⟨#[123, 34, 97, 34, 58, 34, 120, 34, 125]⟩

theorem ascii_of {l : List UInt8} (h : l.all (fun b => decide (b.toNat < 128)) = true) : ∀ (j : Nat) b, l[j]? = some b → b.toNat < 128 := fun j b hb => by
  have := List.all_eq_true.1 h b (List.mem_of_getElem? hb)
  simpa using this

set_option maxRecDepth 100000 in
theorem wake_index : Lib.index (Lib.bytesOf rawL) (Lib.bytesOf [13, 10, 13, 10]) = 39 := by decide +kernel

theorem Kept.drewN' (w : World) (n : Nat) : Kept (fun _ => False) w (w.drewN n) := Kept.drewN _ _ _

theorem wake_trim (W : World) : Calls Tryz.prog 40 #[.string bVal, .string ⟨#[32]⟩] W fun e w' => e = .returned (.string bNine) ∧ Kept (fun _ => False) W w' := by
  have h := Any.strings_Trim_one Tryz.trimL bVal 32 (by decide) W (by decide)
  rw [show (⟨(Lib.trimB bVal.data.toList 32).toArray⟩ : ByteArray) = bNine by decide +kernel] at h
  refine h.mono fun e w' ⟨he, hw⟩ => ⟨he, ?_⟩
  rcases hw with rfl | rfl
  · exact Kept.refl _ _
  · exact Kept.drew _ _

theorem wake_nine (W : World) : Calls Tryz.prog 39 #[.string bNine] W fun e w' => e = .returned (.tuple #[.int .i64 9, .bool true]) ∧ Kept (fun _ => False) W w' := by
  refine length_of W bNine 9 (by decide) (fun V => ?_) (fun V => ?_)
  · have h := all_isDigit V bNine (by decide)
    rwa [show allP isDig bNine.data.toList = true by decide +kernel] at h
  · refine (Any.strconv_Atoi_ok Tryz.atoiL bNine (by decide) 9 (by decide +kernel) V).mono fun e w' ⟨he, hw⟩ => ⟨he, ?_⟩
    rcases hw with rfl | ⟨t, rfl⟩
    · exact Kept.refl _ _
    · exact bytesKept _ _ _ _

theorem wake_path (W : World) : Calls Tryz.prog 34 #[.string bStart] W fun e w' => e = .returned (.bool true) ∧ w' = W := by
  refine path_of W bStart bRest (by decide +kernel) (fun V => ?_) (fun V => ?_)
  · have h := Any.strings_CutPrefix Tryz.cutPrefixL bStart ⟨#[47]⟩ V
    rwa [show (⟨(Lib.trimPrefix bStart.data.toList [47]).toArray⟩ : ByteArray) = bRest by decide +kernel, show Lib.hasPrefix bStart.data.toList [47] = true by decide +kernel] at h
  · have h := all_isPathByte V bRest (by decide)
    rwa [show allP pathB bRest.data.toList = true by decide +kernel] at h

theorem Tryz.info9 : (Tryz.prog.info? 9).map (fun i => (i.zero, i.size, i.bytes)) = some (some (.string ByteArray.empty), 1, 16) := by kernel_rfl

theorem wake_split1 (W : World) (M : MaxAt W) : Calls Tryz.prog 31 #[.string bHead, .string ⟨#[13, 10]⟩] W fun e w' => e = .returned (.slice (some ⟨W.heap.size, 0, none⟩) 2 2) ∧ w' = W.alloc (.cells #[.string bLine0, .string bLine1] 9) := by
  obtain ⟨m, hm⟩ := M
  have h := Any.strings_Split Tryz.splitL Tryz.info9 bHead ⟨#[13, 10]⟩ m W (by decide) hm (by decide)
  rw [show Lib.countB bHead ⟨#[13, 10]⟩ = 1 by decide +kernel, show Lib.splitB ⟨#[13, 10]⟩ 0 1 bHead = [bLine0, bLine1] by decide +kernel] at h
  exact h

theorem wake_split2 (W : World) (M : MaxAt W) : Calls Tryz.prog 31 #[.string bLine0, .string ⟨#[32]⟩] W fun e w' => e = .returned (.slice (some ⟨W.heap.size, 0, none⟩) 3 3) ∧ w' = W.alloc (.cells #[.string bPost, .string bStart, .string bHttp] 9) := by
  obtain ⟨m, hm⟩ := M
  have h := Any.strings_Split Tryz.splitL Tryz.info9 bLine0 ⟨#[32]⟩ m W (by decide) hm (by decide)
  rw [show Lib.countB bLine0 ⟨#[32]⟩ = 2 by decide +kernel, show Lib.splitB ⟨#[32]⟩ 0 2 bLine0 = [bPost, bStart, bHttp] by decide +kernel] at h
  exact h

theorem wake_cut (W : World) (M : MaxAt W) : Calls Tryz.prog 35 #[.string bLine1, .string ⟨#[58]⟩] W fun e w' => e = .returned (.tuple #[.string bName, .string bVal, .bool true]) ∧ Kept (fun _ => False) W w' := by
  obtain ⟨m, hm⟩ := M
  have h := Any.strings_Cut Tryz.cutL bLine1 ⟨#[58]⟩ m W (by decide) hm
  rw [show (⟨(Lib.cut bLine1.data.toList [58]).1.toArray⟩ : ByteArray) = bName by decide +kernel, show (⟨(Lib.cut bLine1.data.toList [58]).2.1.toArray⟩ : ByteArray) = bVal by decide +kernel, show (Lib.cut bLine1.data.toList [58]).2.2 = true by decide +kernel] at h
  exact h.mono fun e w' ⟨he, n, hw⟩ => ⟨he, by rw [hw]; exact Kept.drewN' _ _⟩

theorem wake_head (W : World) (M : MaxAt W) : Calls Tryz.prog 14 #[.string bHead] W fun e w' => e = .returned (.tuple #[.agg #[.string bPost, .string bStart, .int .i64 9], .bool true]) ∧ Kept (fun _ => False) W w' := by
  refine head_of W bHead bLine0 bLine1 bPost bStart bHttp bName bVal bNine 9 (by decide +kernel) (by decide +kernel) (fun V K => wake_split1 V (M.kept K)) (fun V K => wake_split2 V (M.kept K)) (fun V => ?_) wake_path (fun V K => wake_cut V (M.kept K)) (fun V => ?_) (fun V => ?_) (fun V => ?_) wake_trim wake_nine
  · have h := all_isCapital V bPost (by decide)
    rwa [show allP capB bPost.data.toList = true by decide +kernel] at h
  · have h := all_isNameByte V bName (by decide)
    rwa [show allP nmB bName.data.toList = true by decide +kernel] at h
  · have h := all_isValueByte V bVal (by decide)
    rwa [show allP valB bVal.data.toList = true by decide +kernel] at h
  · have h := Any.strings_EqualFold Tryz.foldL bName ⟨#[99, 111, 110, 116, 101, 110, 116, 45, 108, 101, 110, 103, 116, 104]⟩ V (by decide) (ascii_of (by decide +kernel)) (ascii_of (by decide +kernel))
    rwa [show Lib.equalFold bName.data.toList [99, 111, 110, 116, 101, 110, 116, 45, 108, 101, 110, 103, 116, 104] = true by decide +kernel] at h

theorem ints_at (l : List Int) (j : Nat) (h : j < l.length) : (l.map (Value.int .u8)).toArray[j]? = some (.int .u8 (l.getD j 0)) := by
  rw [List.getElem?_toArray, List.getElem?_map, List.getD, List.getElem?_eq_getElem h]
  rfl

theorem raw_cell {W : World} {b : Nat} (h : W.heap[b]? = some (.cells rawA 5 (52, 53))) (j : Nat) (hj : j < 52) : W.cell? ⟨b, j, none⟩ = some (.int .u8 (rawL.getD j 0)) := by
  have hl : rawL.length = 52 := by decide
  simp only [World.cell?, h]
  exact ints_at rawL j (by omega)

theorem raw_bytes {W : World} {b : Nat} (h : W.heap[b]? = some (.cells rawA 5 (52, 53))) (o n c : Nat) (hon : o + n ≤ 52) (hn : n ≤ c) : BytesAt W (some ⟨b, o, none⟩) n c ((rawL.drop o).take n) := by
  have hl : rawL.length = 52 := by decide
  refine ⟨by rw [List.length_take, List.length_drop, hl]; omega, hn, (fun e => by cases e), fun ad e j u hu => ?_, fun y hy => ?_⟩
  · cases e
    rw [List.getElem?_map, List.getElem?_take] at hu
    split at hu
    · rename_i hj
      rw [List.getElem?_drop, List.getElem?_eq_getElem (by omega)] at hu
      simp only [Option.map_some, Option.some.injEq] at hu
      rw [Addr.add_lit, raw_cell h (o + j) (by omega), ← hu, List.getD, List.getElem?_eq_getElem (by omega)]
      rfl
    · cases hu
  · have h2 : rawL.all (fun y => decide (0 ≤ y) && decide (y ≤ 255)) = true := by decide +kernel
    have := List.all_eq_true.1 h2 y (List.mem_of_mem_drop (List.mem_of_mem_take hy))
    simpa using this

set_option maxRecDepth 100000 in
theorem wake_read (w : World) (b : Nat) (h : w.heap[b]? = some (.cells rawA 5 (52, 53))) (M : MaxAt w) : Calls Tryz.prog 7 #[.slice (some ⟨b, 0, none⟩) 52 52] w fun e w' => e = .returned (.tuple #[.string bPost, .string bStart, .string bBody, .int .i64 200]) ∧ Kept (fun _ => False) w w' := by
  have keep : ∀ {W : World}, Kept (fun _ => False) w W → W.heap[b]? = some (.cells rawA 5 (52, 53)) := fun {W} K => (K.block b (Array.getElem?_eq_some_iff.1 h).1 (fun h => h)).trans h
  refine read_of w b bHead bPost bStart bBody (fun W q hW hq => ?_) (fun W K => ?_) (fun W K => wake_head W (M.kept K)) (by decide +kernel) (by decide +kernel) (fun W K => ?_) (fun W K => ?_)
  · subst hW hq
    obtain ⟨m, hm⟩ := M.kept (Kept.alloc (fun _ => False) w (.cells #[.int .u8 13, .int .u8 10, .int .u8 13, .int .u8 10] 5 (4, 5)))
    have hb := keep (Kept.alloc (fun _ => False) w (.cells #[.int .u8 13, .int .u8 10, .int .u8 13, .int .u8 10] 5 (4, 5)))
    have hI := Any.bytes_Index_at Tryz.bytesIndexL ⟨b, 0, none⟩ ⟨w.heap.size, 0, none⟩ 52 52 4 4 rawL [13, 10, 13, 10] m _ (by decide) rfl (by decide +kernel) (by decide +kernel)
      (fun i hi => by rw [Addr.add_lit, Nat.zero_add]; exact raw_cell hb i hi)
      (fun i hi => by
        rw [Addr.add_lit, Nat.zero_add]
        simp only [World.cell?, heap_alloc_new]
        exact ints_at [13, 10, 13, 10] i hi)
      (by decide) (by decide) (by decide) hm
    rw [wake_index] at hI
    exact hI.mono fun e w' ⟨he, q, hw⟩ => ⟨he, by rw [hw]; exact Kept.drewN' _ _⟩
  · have := (raw_bytes (keep K) 0 39 52 (by decide) (by decide)).str
    rwa [show strOfNums ((rawL.drop 0).take 39) = bHead by decide +kernel] at this
  · exact valid_short W b 43 9 (fun j => rawL.getD (43 + j) 0) (by decide) (fun j hj => ⟨raw_cell (keep K) (43 + j) (by omega), by
      have h2 : ∀ i : Fin 9, rawL.getD (43 + i.1) 0 < 128 := by decide +kernel
      exact h2 ⟨j, hj⟩⟩)
  · have := (raw_bytes (keep K) 43 9 9 (by decide) (by decide)).str
    rwa [show strOfNums ((rawL.drop 43).take 9) = bBody by decide +kernel] at this

theorem wake_obj : objP bBody = ([([97], [34, 120])], 0, 0) := by decide +kernel

set_option maxRecDepth 100000 in
set_option maxHeartbeats 2000000 in
theorem wakes_of (w : World) (m p body x : ByteArray) (hm : (m.toList == [80, 79, 83, 84]) = true) (hp : (p.toList == [47, 115, 116, 97, 114, 116]) = true) (hx : (x.toList == [120]) = true)
    (hR : ∀ W b, W = w.alloc (.cells rawA 5 (52, 53)) → b = w.heap.size → Calls Tryz.prog 7 #[.slice (some ⟨b, 0, none⟩) 52 52] W fun e w' => e = .returned (.tuple #[.string m, .string p, .string body, .int .i64 200]) ∧ Kept (fun _ => False) w w')
    (hO : ∀ W, Kept (fun _ => False) w W → Calls Tryz.prog 24 #[.string body] W fun e w' => ∃ a c, e = .returned (.tuple #[.slice a 1 c, .int .i64 0, .int .i64 0]) ∧ Kept (fun _ => False) w w' ∧ PairsAt w' a [([97], [34, 120])])
    (hT : ∀ W a c, PairsAt W a [([97], [34, 120])] → Calls Tryz.prog 25 #[.slice a 1 c, .string ⟨#[97]⟩] W fun e w' => e = .returned (.tuple #[.string x, .bool true]) ∧ Kept (fun _ => False) W w') :
    Calls Tryz.prog 10 #[] w fun e w' => e = .returned (.bool true) ∧ Kept (fun _ => False) w w' := by
  have hcc := Lib.run_convert_bytes_const w 23 5 rawA 52 52 Tryz.underlying23 Tryz.underlying5
  have hR' := hR _ _ rfl rfl
  clear hR
  unfold rawA at hcc hR'
  go_enter Tryz.func10, Tryz.ntmps10
  go_wp2_with (first
    | (go_at_call 7; refine hR'.mono ?_; rintro e w1 ⟨rfl, K1⟩; clear hR' hcc)
    | (go_at_call 24; refine (hO _ K1).mono ?_; rintro e w2 ⟨a, c, rfl, K2, hP⟩; clear hO K1)
    | (go_at_call 25; refine (hT _ _ _ hP).mono ?_; rintro e w3 ⟨rfl, K3⟩; clear hT hP)
    | fail)
  go_ret
  exact ⟨rfl, K2.and K3⟩

theorem wakes_any (w : World) (T : Utf8At w) (M : MaxAt w) : Calls Tryz.prog 10 #[] w fun e w' => e = .returned (.bool true) ∧ Kept (fun _ => False) w w' := by
  refine wakes_of w bPost bStart bBody ⟨#[120]⟩ (by decide +kernel) (by decide +kernel) (by decide +kernel) (fun W b hW hb => ?_) (fun W K => ?_) (fun W a c hP => ?_)
  · subst hW hb
    have K := Kept.alloc (fun _ => False) w (.cells rawA 5 (52, 53))
    exact (wake_read _ _ (heap_alloc_new _ _) (M.kept K)).mono fun e w' ⟨he, K2⟩ => ⟨he, K.and K2⟩
  · refine (object_any W bBody (by decide) (T.kept K)).mono fun e w' h => ?_
    rw [wake_obj] at h
    obtain ⟨v, he, a, c, rfl, ho, K2⟩ := h
    exact ⟨a, c, he, K.and K2, PairsAt.of_row ho⟩
  · have h := text_any W a c [([97], [34, 120])] [97] hP (by decide)
    rw [show fldV (textOf (fieldP [([97], [34, 120])] [97])) = .tuple #[.string ⟨#[120]⟩, .bool true] by rfl] at h
    exact h

end Go.Proofs.YtfiaaaflpjpnjaaGreatDoor
