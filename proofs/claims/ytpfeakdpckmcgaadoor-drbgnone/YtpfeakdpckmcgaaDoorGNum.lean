/-
  The numbers of the law's own examples (seeds 'x' and 'y'), sum by sum; no function of the program is named here.
-/
import Derived.Test.YtpfeakdpckmcgaaDoorGMath
namespace Go.Proofs.YtpfeakdpckmcgaaDoor
open Go.RowKit
theorem ba_of {a b : ByteArray} (h : a.data.toList = b.data.toList) : a = b := by
  cases a; cases b
  exact congrArg ByteArray.mk (Array.toList_inj.1 h)
def sX : ByteArray := ⟨#[120]⟩
def sY : ByteArray := ⟨#[121]⟩
def xk1 : ByteArray := ⟨#[141, 28, 99, 236, 55, 51, 3, 27, 62, 239, 66, 242, 253, 111, 70, 68, 180, 218, 201, 247, 92, 209, 78, 225, 220, 238, 28, 150, 15, 75, 194, 202]⟩
def xv1 : ByteArray := ⟨#[190, 188, 77, 224, 0, 214, 118, 186, 72, 215, 10, 102, 204, 241, 113, 19, 152, 187, 160, 95, 50, 8, 113, 107, 134, 208, 42, 67, 250, 172, 186, 230]⟩
def xk2 : ByteArray := ⟨#[197, 67, 134, 248, 26, 225, 157, 181, 5, 204, 41, 121, 63, 130, 47, 88, 48, 213, 92, 237, 172, 156, 63, 242, 37, 142, 219, 161, 100, 17, 251, 67]⟩
def xv2 : ByteArray := ⟨#[120, 98, 110, 89, 75, 219, 36, 10, 205, 107, 217, 53, 227, 217, 139, 59, 33, 103, 110, 107, 102, 6, 223, 4, 174, 28, 250, 29, 229, 238, 104, 38]⟩
set_option maxRecDepth 100000 in
theorem x1 : k1 (agS 0) (agS 1) sX = xk1 := ba_of (by decide +kernel)
set_option maxRecDepth 100000 in
theorem x2 : v1 (agS 0) (agS 1) sX = xv1 := by
  unfold v1
  rw [x1]
  exact ba_of (by decide +kernel)
set_option maxRecDepth 100000 in
theorem x3 : k2 (agS 0) (agS 1) sX = xk2 := by
  unfold k2
  rw [x1, x2]
  exact ba_of (by decide +kernel)
set_option maxRecDepth 100000 in
theorem x4 : v2 (agS 0) (agS 1) sX = xv2 := by
  unfold v2
  rw [x2, x3]
  exact ba_of (by decide +kernel)
theorem x5 : gNew sX = (xk2, xv2, 0) := by
  have h : ¬ sX.size = 0 := by decide
  have a : upK (agS 0) (agS 1) sX = xk2 := by unfold upK; rw [if_neg h, x3]
  have b : upV (agS 0) (agS 1) sX = xv2 := by unfold upV; rw [if_neg h, x4]
  rw [← a, ← b]
  rfl
def xv3 : ByteArray := ⟨#[230, 215, 129, 77, 66, 251, 132, 10, 176, 91, 180, 199, 136, 122, 114, 124, 67, 114, 81, 33, 34, 242, 190, 200, 176, 248, 46, 160, 211, 128, 76, 106]⟩
def xv4 : ByteArray := ⟨#[41, 189, 21, 97, 98, 105, 108, 217, 39, 8, 91, 103, 199, 182, 60, 236, 182, 236, 31, 95, 175, 193, 13, 255, 223, 15, 57, 89, 2, 68, 161, 39]⟩
set_option maxRecDepth 100000 in
theorem x6 : macS xk2 xv2 = xv3 := ba_of (by decide +kernel)
set_option maxRecDepth 100000 in
theorem x7 : macS xk2 xv3 = xv4 := ba_of (by decide +kernel)
def xo : ByteArray := ⟨#[230, 215, 129, 77, 66, 251, 132, 10, 176, 91, 180, 199, 136, 122, 114, 124, 67, 114, 81, 33, 34, 242, 190, 200, 176, 248, 46, 160, 211, 128, 76, 106, 41, 189, 21, 97, 98, 105, 108, 217]⟩
theorem x8 : gV xk2 xv2 1 = xv3 ∧ gV xk2 xv2 2 = xv4 := by
  have a : gV xk2 xv2 1 = xv3 := by unfold gV gV; exact x6
  exact ⟨a, by unfold gV; rw [a, x7]⟩
set_option maxRecDepth 100000 in
theorem x9 : gT 40 (gNew sX) = xo := by
  rw [x5]
  have e : stp 40 = 2 := by decide
  show (gO xk2 xv2 (stp 40)).extract 0 40 = _
  rw [e]
  unfold gO gO gO
  rw [x8.1, x8.2]
  exact ba_of (by decide +kernel)
def xk3 : ByteArray := ⟨#[174, 53, 24, 115, 238, 69, 148, 211, 17, 219, 182, 29, 219, 207, 92, 16, 114, 185, 16, 49, 119, 152, 188, 45, 149, 169, 241, 252, 142, 70, 119, 22]⟩
def xv5 : ByteArray := ⟨#[2, 144, 96, 145, 146, 113, 15, 101, 177, 176, 211, 118, 82, 52, 71, 214, 65, 82, 235, 204, 255, 170, 108, 52, 202, 141, 86, 99, 153, 15, 72, 228]⟩
def xv6 : ByteArray := ⟨#[142, 27, 246, 6, 18, 204, 230, 125, 219, 124, 8, 243, 33, 211, 78, 195, 220, 199, 221, 250, 104, 6, 112, 198, 148, 231, 146, 236, 213, 11, 162, 64]⟩
set_option maxRecDepth 100000 in
theorem x10 : k1 xk2 xv4 e0S = xk3 := ba_of (by decide +kernel)
set_option maxRecDepth 100000 in
theorem x11 : v1 xk2 xv4 e0S = xv5 := by
  unfold v1
  rw [x10]
  exact ba_of (by decide +kernel)
theorem x12 : gB 40 (gNew sX) = (xk3, xv5, 40) := by
  rw [x5]
  have e : stp 40 = 2 := by decide
  have z : e0S.size = 0 := rfl
  have a : bK xk2 xv2 40 = xk3 := by unfold bK; rw [e, x8.2]; unfold upK; rw [if_pos z, x10]
  have b : bV xk2 xv2 40 = xv5 := by unfold bV; rw [e, x8.2]; unfold upV; rw [if_pos z, x11]
  rw [← a, ← b]
  rfl
set_option maxRecDepth 100000 in
theorem x13 : macS xk3 xv5 = xv6 := ba_of (by decide +kernel)
set_option maxRecDepth 100000 in
theorem x14 : gT 32 (xk3, xv5, 40) = xv6 := by
  have e : stp 32 = 1 := by decide
  show (gO xk3 xv5 (stp 32)).extract 0 32 = _
  rw [e]
  unfold gO gO gV gV
  rw [x13]
  exact ba_of (by decide +kernel)
set_option maxRecDepth 100000 in
theorem x15 : okN xv6 = true := by decide +kernel
def yk1 : ByteArray := ⟨#[195, 170, 231, 47, 212, 12, 9, 27, 48, 119, 206, 221, 78, 222, 79, 67, 70, 238, 95, 189, 180, 254, 38, 86, 212, 96, 239, 29, 146, 205, 233, 109]⟩
def yv1 : ByteArray := ⟨#[73, 237, 57, 153, 152, 224, 60, 161, 236, 227, 88, 250, 109, 60, 222, 158, 199, 196, 170, 21, 6, 217, 47, 102, 158, 184, 210, 138, 244, 79, 185, 146]⟩
def yk2 : ByteArray := ⟨#[203, 157, 208, 208, 16, 144, 219, 50, 152, 175, 12, 158, 8, 242, 89, 176, 55, 216, 191, 186, 157, 206, 78, 185, 28, 194, 85, 89, 235, 79, 3, 246]⟩
def yv2 : ByteArray := ⟨#[188, 250, 89, 103, 31, 143, 86, 56, 189, 51, 35, 23, 19, 75, 235, 148, 104, 234, 173, 91, 30, 183, 103, 37, 166, 228, 69, 66, 184, 236, 190, 8]⟩
set_option maxRecDepth 100000 in
theorem y1 : k1 (agS 0) (agS 1) sY = yk1 := ba_of (by decide +kernel)
set_option maxRecDepth 100000 in
theorem y2 : v1 (agS 0) (agS 1) sY = yv1 := by
  unfold v1
  rw [y1]
  exact ba_of (by decide +kernel)
set_option maxRecDepth 100000 in
theorem y3 : k2 (agS 0) (agS 1) sY = yk2 := by
  unfold k2
  rw [y1, y2]
  exact ba_of (by decide +kernel)
set_option maxRecDepth 100000 in
theorem y4 : v2 (agS 0) (agS 1) sY = yv2 := by
  unfold v2
  rw [y2, y3]
  exact ba_of (by decide +kernel)
theorem y5 : gNew sY = (yk2, yv2, 0) := by
  have h : ¬ sY.size = 0 := by decide
  have a : upK (agS 0) (agS 1) sY = yk2 := by unfold upK; rw [if_neg h, y3]
  have b : upV (agS 0) (agS 1) sY = yv2 := by unfold upV; rw [if_neg h, y4]
  rw [← a, ← b]
  rfl
def yv3 : ByteArray := ⟨#[190, 32, 69, 99, 235, 154, 29, 138, 9, 175, 251, 16, 124, 125, 85, 191, 47, 215, 53, 249, 197, 21, 18, 130, 154, 193, 228, 245, 217, 175, 213, 8]⟩
def yv4 : ByteArray := ⟨#[155, 228, 197, 139, 148, 116, 53, 1, 113, 218, 116, 155, 8, 153, 143, 72, 94, 122, 136, 188, 4, 77, 51, 214, 136, 196, 76, 4, 226, 58, 191, 239]⟩
set_option maxRecDepth 100000 in
theorem y6 : macS yk2 yv2 = yv3 := ba_of (by decide +kernel)
set_option maxRecDepth 100000 in
theorem y7 : macS yk2 yv3 = yv4 := ba_of (by decide +kernel)
def yo : ByteArray := ⟨#[190, 32, 69, 99, 235, 154, 29, 138, 9, 175, 251, 16, 124, 125, 85, 191, 47, 215, 53, 249, 197, 21, 18, 130, 154, 193, 228, 245, 217, 175, 213, 8, 155, 228, 197, 139, 148, 116, 53, 1]⟩
theorem y8 : gV yk2 yv2 1 = yv3 ∧ gV yk2 yv2 2 = yv4 := by
  have a : gV yk2 yv2 1 = yv3 := by unfold gV gV; exact y6
  exact ⟨a, by unfold gV; rw [a, y7]⟩
set_option maxRecDepth 100000 in
theorem y9 : gT 40 (gNew sY) = yo := by
  rw [y5]
  have e : stp 40 = 2 := by decide
  show (gO yk2 yv2 (stp 40)).extract 0 40 = _
  rw [e]
  unfold gO gO gO
  rw [y8.1, y8.2]
  exact ba_of (by decide +kernel)
theorem xy_ne : gT 40 (gNew sX) ≠ gT 40 (gNew sY) := by
  rw [x9, y9]
  intro h
  have := congrArg (fun s : ByteArray => s.data.toList.head?) h
  exact absurd this (by decide)
end Go.Proofs.YtpfeakdpckmcgaaDoor
