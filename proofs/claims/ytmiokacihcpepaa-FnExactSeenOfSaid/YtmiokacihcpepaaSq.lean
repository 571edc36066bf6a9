/-
  The walk's steps in few words: what an operation wants is checked by one equation of the kernel; claims and cells are named by their place. No statement about the program stands here. No condition.
-/
import Derived.Test.YtmiokacihcpepaaSxA
namespace Go.Proofs.Ytmiokacihcpepaa.Sx
set_option maxRecDepth 100000
open Go.ChangeShapes Go.WideShapes Go.ChangeAt Go.RowKit Go.Deep
open Go.Proofs.Ytmiokacihcpepaa.Base Go.Proofs.Ytmiokacihcpepaa.Mem Go.Proofs.Ytmiokacihcpepaa.Data Go.Proofs.Ytmiokacihcpepaa.Stt
set_option linter.unusedVariables false

/-- The n-th of l is x; l' is l with y in its place. -/
inductive At {α : Type} : Nat → List α → α → α → List α → Prop
  | z {x y : α} {l : List α} : At 0 (x :: l) x y (y :: l)
  | s {n : Nat} {a : α} {l : List α} {x y : α} {l' : List α} : At n l x y l' → At (n + 1) (a :: l) x y (a :: l')
/-- The n-th of l is x. -/
inductive Me {α : Type} : Nat → List α → α → Prop
  | z {x : α} {l : List α} : Me 0 (x :: l) x
  | s {n : Nat} {a : α} {l : List α} {x : α} : Me n l x → Me (n + 1) (a :: l) x
theorem At.a0 {α : Type} {x y : α} {l : List α} : At 0 (x :: l) x y (y :: l) := .z
theorem Me.m0 {α : Type} {x : α} {l : List α} : Me 0 (x :: l) x := .z
theorem At.a1 {α : Type} {x0 x y : α} {l : List α} : At 1 (x0 :: x :: l) x y (x0 :: y :: l) := .s .a0
theorem Me.m1 {α : Type} {x0 x : α} {l : List α} : Me 1 (x0 :: x :: l) x := .s .m0
theorem At.a2 {α : Type} {x0 x1 x y : α} {l : List α} : At 2 (x0 :: x1 :: x :: l) x y (x0 :: x1 :: y :: l) := .s .a1
theorem Me.m2 {α : Type} {x0 x1 x : α} {l : List α} : Me 2 (x0 :: x1 :: x :: l) x := .s .m1
theorem At.a3 {α : Type} {x0 x1 x2 x y : α} {l : List α} : At 3 (x0 :: x1 :: x2 :: x :: l) x y (x0 :: x1 :: x2 :: y :: l) := .s .a2
theorem Me.m3 {α : Type} {x0 x1 x2 x : α} {l : List α} : Me 3 (x0 :: x1 :: x2 :: x :: l) x := .s .m2
theorem At.a4 {α : Type} {x0 x1 x2 x3 x y : α} {l : List α} : At 4 (x0 :: x1 :: x2 :: x3 :: x :: l) x y (x0 :: x1 :: x2 :: x3 :: y :: l) := .s .a3
theorem Me.m4 {α : Type} {x0 x1 x2 x3 x : α} {l : List α} : Me 4 (x0 :: x1 :: x2 :: x3 :: x :: l) x := .s .m3
theorem At.a5 {α : Type} {x0 x1 x2 x3 x4 x y : α} {l : List α} : At 5 (x0 :: x1 :: x2 :: x3 :: x4 :: x :: l) x y (x0 :: x1 :: x2 :: x3 :: x4 :: y :: l) := .s .a4
theorem Me.m5 {α : Type} {x0 x1 x2 x3 x4 x : α} {l : List α} : Me 5 (x0 :: x1 :: x2 :: x3 :: x4 :: x :: l) x := .s .m4
theorem At.a6 {α : Type} {x0 x1 x2 x3 x4 x5 x y : α} {l : List α} : At 6 (x0 :: x1 :: x2 :: x3 :: x4 :: x5 :: x :: l) x y (x0 :: x1 :: x2 :: x3 :: x4 :: x5 :: y :: l) := .s .a5
theorem Me.m6 {α : Type} {x0 x1 x2 x3 x4 x5 x : α} {l : List α} : Me 6 (x0 :: x1 :: x2 :: x3 :: x4 :: x5 :: x :: l) x := .s .m5
theorem At.a7 {α : Type} {x0 x1 x2 x3 x4 x5 x6 x y : α} {l : List α} : At 7 (x0 :: x1 :: x2 :: x3 :: x4 :: x5 :: x6 :: x :: l) x y (x0 :: x1 :: x2 :: x3 :: x4 :: x5 :: x6 :: y :: l) := .s .a6
theorem Me.m7 {α : Type} {x0 x1 x2 x3 x4 x5 x6 x : α} {l : List α} : Me 7 (x0 :: x1 :: x2 :: x3 :: x4 :: x5 :: x6 :: x :: l) x := .s .m6
theorem At.a8 {α : Type} {x0 x1 x2 x3 x4 x5 x6 x7 x y : α} {l : List α} : At 8 (x0 :: x1 :: x2 :: x3 :: x4 :: x5 :: x6 :: x7 :: x :: l) x y (x0 :: x1 :: x2 :: x3 :: x4 :: x5 :: x6 :: x7 :: y :: l) := .s .a7
theorem Me.m8 {α : Type} {x0 x1 x2 x3 x4 x5 x6 x7 x : α} {l : List α} : Me 8 (x0 :: x1 :: x2 :: x3 :: x4 :: x5 :: x6 :: x7 :: x :: l) x := .s .m7
theorem At.a9 {α : Type} {x0 x1 x2 x3 x4 x5 x6 x7 x8 x y : α} {l : List α} : At 9 (x0 :: x1 :: x2 :: x3 :: x4 :: x5 :: x6 :: x7 :: x8 :: x :: l) x y (x0 :: x1 :: x2 :: x3 :: x4 :: x5 :: x6 :: x7 :: x8 :: y :: l) := .s .a8
theorem Me.m9 {α : Type} {x0 x1 x2 x3 x4 x5 x6 x7 x8 x : α} {l : List α} : Me 9 (x0 :: x1 :: x2 :: x3 :: x4 :: x5 :: x6 :: x7 :: x8 :: x :: l) x := .s .m8
theorem At.a10 {α : Type} {x0 x1 x2 x3 x4 x5 x6 x7 x8 x9 x y : α} {l : List α} : At 10 (x0 :: x1 :: x2 :: x3 :: x4 :: x5 :: x6 :: x7 :: x8 :: x9 :: x :: l) x y (x0 :: x1 :: x2 :: x3 :: x4 :: x5 :: x6 :: x7 :: x8 :: x9 :: y :: l) := .s .a9
theorem Me.m10 {α : Type} {x0 x1 x2 x3 x4 x5 x6 x7 x8 x9 x : α} {l : List α} : Me 10 (x0 :: x1 :: x2 :: x3 :: x4 :: x5 :: x6 :: x7 :: x8 :: x9 :: x :: l) x := .s .m9
theorem At.a11 {α : Type} {x0 x1 x2 x3 x4 x5 x6 x7 x8 x9 x10 x y : α} {l : List α} : At 11 (x0 :: x1 :: x2 :: x3 :: x4 :: x5 :: x6 :: x7 :: x8 :: x9 :: x10 :: x :: l) x y (x0 :: x1 :: x2 :: x3 :: x4 :: x5 :: x6 :: x7 :: x8 :: x9 :: x10 :: y :: l) := .s .a10
theorem Me.m11 {α : Type} {x0 x1 x2 x3 x4 x5 x6 x7 x8 x9 x10 x : α} {l : List α} : Me 11 (x0 :: x1 :: x2 :: x3 :: x4 :: x5 :: x6 :: x7 :: x8 :: x9 :: x10 :: x :: l) x := .s .m10
theorem At.a12 {α : Type} {x0 x1 x2 x3 x4 x5 x6 x7 x8 x9 x10 x11 x y : α} {l : List α} : At 12 (x0 :: x1 :: x2 :: x3 :: x4 :: x5 :: x6 :: x7 :: x8 :: x9 :: x10 :: x11 :: x :: l) x y (x0 :: x1 :: x2 :: x3 :: x4 :: x5 :: x6 :: x7 :: x8 :: x9 :: x10 :: x11 :: y :: l) := .s .a11
theorem Me.m12 {α : Type} {x0 x1 x2 x3 x4 x5 x6 x7 x8 x9 x10 x11 x : α} {l : List α} : Me 12 (x0 :: x1 :: x2 :: x3 :: x4 :: x5 :: x6 :: x7 :: x8 :: x9 :: x10 :: x11 :: x :: l) x := .s .m11
theorem At.a13 {α : Type} {x0 x1 x2 x3 x4 x5 x6 x7 x8 x9 x10 x11 x12 x y : α} {l : List α} : At 13 (x0 :: x1 :: x2 :: x3 :: x4 :: x5 :: x6 :: x7 :: x8 :: x9 :: x10 :: x11 :: x12 :: x :: l) x y (x0 :: x1 :: x2 :: x3 :: x4 :: x5 :: x6 :: x7 :: x8 :: x9 :: x10 :: x11 :: x12 :: y :: l) := .s .a12
theorem Me.m13 {α : Type} {x0 x1 x2 x3 x4 x5 x6 x7 x8 x9 x10 x11 x12 x : α} {l : List α} : Me 13 (x0 :: x1 :: x2 :: x3 :: x4 :: x5 :: x6 :: x7 :: x8 :: x9 :: x10 :: x11 :: x12 :: x :: l) x := .s .m12
theorem At.a14 {α : Type} {x0 x1 x2 x3 x4 x5 x6 x7 x8 x9 x10 x11 x12 x13 x y : α} {l : List α} : At 14 (x0 :: x1 :: x2 :: x3 :: x4 :: x5 :: x6 :: x7 :: x8 :: x9 :: x10 :: x11 :: x12 :: x13 :: x :: l) x y (x0 :: x1 :: x2 :: x3 :: x4 :: x5 :: x6 :: x7 :: x8 :: x9 :: x10 :: x11 :: x12 :: x13 :: y :: l) := .s .a13
theorem Me.m14 {α : Type} {x0 x1 x2 x3 x4 x5 x6 x7 x8 x9 x10 x11 x12 x13 x : α} {l : List α} : Me 14 (x0 :: x1 :: x2 :: x3 :: x4 :: x5 :: x6 :: x7 :: x8 :: x9 :: x10 :: x11 :: x12 :: x13 :: x :: l) x := .s .m13
theorem At.a15 {α : Type} {x0 x1 x2 x3 x4 x5 x6 x7 x8 x9 x10 x11 x12 x13 x14 x y : α} {l : List α} : At 15 (x0 :: x1 :: x2 :: x3 :: x4 :: x5 :: x6 :: x7 :: x8 :: x9 :: x10 :: x11 :: x12 :: x13 :: x14 :: x :: l) x y (x0 :: x1 :: x2 :: x3 :: x4 :: x5 :: x6 :: x7 :: x8 :: x9 :: x10 :: x11 :: x12 :: x13 :: x14 :: y :: l) := .s .a14
theorem Me.m15 {α : Type} {x0 x1 x2 x3 x4 x5 x6 x7 x8 x9 x10 x11 x12 x13 x14 x : α} {l : List α} : Me 15 (x0 :: x1 :: x2 :: x3 :: x4 :: x5 :: x6 :: x7 :: x8 :: x9 :: x10 :: x11 :: x12 :: x13 :: x14 :: x :: l) x := .s .m14
theorem At.a16 {α : Type} {x0 x1 x2 x3 x4 x5 x6 x7 x8 x9 x10 x11 x12 x13 x14 x15 x y : α} {l : List α} : At 16 (x0 :: x1 :: x2 :: x3 :: x4 :: x5 :: x6 :: x7 :: x8 :: x9 :: x10 :: x11 :: x12 :: x13 :: x14 :: x15 :: x :: l) x y (x0 :: x1 :: x2 :: x3 :: x4 :: x5 :: x6 :: x7 :: x8 :: x9 :: x10 :: x11 :: x12 :: x13 :: x14 :: x15 :: y :: l) := .s .a15
theorem Me.m16 {α : Type} {x0 x1 x2 x3 x4 x5 x6 x7 x8 x9 x10 x11 x12 x13 x14 x15 x : α} {l : List α} : Me 16 (x0 :: x1 :: x2 :: x3 :: x4 :: x5 :: x6 :: x7 :: x8 :: x9 :: x10 :: x11 :: x12 :: x13 :: x14 :: x15 :: x :: l) x := .s .m15
theorem At.a17 {α : Type} {x0 x1 x2 x3 x4 x5 x6 x7 x8 x9 x10 x11 x12 x13 x14 x15 x16 x y : α} {l : List α} : At 17 (x0 :: x1 :: x2 :: x3 :: x4 :: x5 :: x6 :: x7 :: x8 :: x9 :: x10 :: x11 :: x12 :: x13 :: x14 :: x15 :: x16 :: x :: l) x y (x0 :: x1 :: x2 :: x3 :: x4 :: x5 :: x6 :: x7 :: x8 :: x9 :: x10 :: x11 :: x12 :: x13 :: x14 :: x15 :: x16 :: y :: l) := .s .a16
theorem Me.m17 {α : Type} {x0 x1 x2 x3 x4 x5 x6 x7 x8 x9 x10 x11 x12 x13 x14 x15 x16 x : α} {l : List α} : Me 17 (x0 :: x1 :: x2 :: x3 :: x4 :: x5 :: x6 :: x7 :: x8 :: x9 :: x10 :: x11 :: x12 :: x13 :: x14 :: x15 :: x16 :: x :: l) x := .s .m16
theorem At.a18 {α : Type} {x0 x1 x2 x3 x4 x5 x6 x7 x8 x9 x10 x11 x12 x13 x14 x15 x16 x17 x y : α} {l : List α} : At 18 (x0 :: x1 :: x2 :: x3 :: x4 :: x5 :: x6 :: x7 :: x8 :: x9 :: x10 :: x11 :: x12 :: x13 :: x14 :: x15 :: x16 :: x17 :: x :: l) x y (x0 :: x1 :: x2 :: x3 :: x4 :: x5 :: x6 :: x7 :: x8 :: x9 :: x10 :: x11 :: x12 :: x13 :: x14 :: x15 :: x16 :: x17 :: y :: l) := .s .a17
theorem Me.m18 {α : Type} {x0 x1 x2 x3 x4 x5 x6 x7 x8 x9 x10 x11 x12 x13 x14 x15 x16 x17 x : α} {l : List α} : Me 18 (x0 :: x1 :: x2 :: x3 :: x4 :: x5 :: x6 :: x7 :: x8 :: x9 :: x10 :: x11 :: x12 :: x13 :: x14 :: x15 :: x16 :: x17 :: x :: l) x := .s .m17
theorem At.a19 {α : Type} {x0 x1 x2 x3 x4 x5 x6 x7 x8 x9 x10 x11 x12 x13 x14 x15 x16 x17 x18 x y : α} {l : List α} : At 19 (x0 :: x1 :: x2 :: x3 :: x4 :: x5 :: x6 :: x7 :: x8 :: x9 :: x10 :: x11 :: x12 :: x13 :: x14 :: x15 :: x16 :: x17 :: x18 :: x :: l) x y (x0 :: x1 :: x2 :: x3 :: x4 :: x5 :: x6 :: x7 :: x8 :: x9 :: x10 :: x11 :: x12 :: x13 :: x14 :: x15 :: x16 :: x17 :: x18 :: y :: l) := .s .a18
theorem Me.m19 {α : Type} {x0 x1 x2 x3 x4 x5 x6 x7 x8 x9 x10 x11 x12 x13 x14 x15 x16 x17 x18 x : α} {l : List α} : Me 19 (x0 :: x1 :: x2 :: x3 :: x4 :: x5 :: x6 :: x7 :: x8 :: x9 :: x10 :: x11 :: x12 :: x13 :: x14 :: x15 :: x16 :: x17 :: x18 :: x :: l) x := .s .m18
theorem At.a20 {α : Type} {x0 x1 x2 x3 x4 x5 x6 x7 x8 x9 x10 x11 x12 x13 x14 x15 x16 x17 x18 x19 x y : α} {l : List α} : At 20 (x0 :: x1 :: x2 :: x3 :: x4 :: x5 :: x6 :: x7 :: x8 :: x9 :: x10 :: x11 :: x12 :: x13 :: x14 :: x15 :: x16 :: x17 :: x18 :: x19 :: x :: l) x y (x0 :: x1 :: x2 :: x3 :: x4 :: x5 :: x6 :: x7 :: x8 :: x9 :: x10 :: x11 :: x12 :: x13 :: x14 :: x15 :: x16 :: x17 :: x18 :: x19 :: y :: l) := .s .a19
theorem Me.m20 {α : Type} {x0 x1 x2 x3 x4 x5 x6 x7 x8 x9 x10 x11 x12 x13 x14 x15 x16 x17 x18 x19 x : α} {l : List α} : Me 20 (x0 :: x1 :: x2 :: x3 :: x4 :: x5 :: x6 :: x7 :: x8 :: x9 :: x10 :: x11 :: x12 :: x13 :: x14 :: x15 :: x16 :: x17 :: x18 :: x19 :: x :: l) x := .s .m19
theorem At.a21 {α : Type} {x0 x1 x2 x3 x4 x5 x6 x7 x8 x9 x10 x11 x12 x13 x14 x15 x16 x17 x18 x19 x20 x y : α} {l : List α} : At 21 (x0 :: x1 :: x2 :: x3 :: x4 :: x5 :: x6 :: x7 :: x8 :: x9 :: x10 :: x11 :: x12 :: x13 :: x14 :: x15 :: x16 :: x17 :: x18 :: x19 :: x20 :: x :: l) x y (x0 :: x1 :: x2 :: x3 :: x4 :: x5 :: x6 :: x7 :: x8 :: x9 :: x10 :: x11 :: x12 :: x13 :: x14 :: x15 :: x16 :: x17 :: x18 :: x19 :: x20 :: y :: l) := .s .a20
theorem Me.m21 {α : Type} {x0 x1 x2 x3 x4 x5 x6 x7 x8 x9 x10 x11 x12 x13 x14 x15 x16 x17 x18 x19 x20 x : α} {l : List α} : Me 21 (x0 :: x1 :: x2 :: x3 :: x4 :: x5 :: x6 :: x7 :: x8 :: x9 :: x10 :: x11 :: x12 :: x13 :: x14 :: x15 :: x16 :: x17 :: x18 :: x19 :: x20 :: x :: l) x := .s .m20
theorem At.a22 {α : Type} {x0 x1 x2 x3 x4 x5 x6 x7 x8 x9 x10 x11 x12 x13 x14 x15 x16 x17 x18 x19 x20 x21 x y : α} {l : List α} : At 22 (x0 :: x1 :: x2 :: x3 :: x4 :: x5 :: x6 :: x7 :: x8 :: x9 :: x10 :: x11 :: x12 :: x13 :: x14 :: x15 :: x16 :: x17 :: x18 :: x19 :: x20 :: x21 :: x :: l) x y (x0 :: x1 :: x2 :: x3 :: x4 :: x5 :: x6 :: x7 :: x8 :: x9 :: x10 :: x11 :: x12 :: x13 :: x14 :: x15 :: x16 :: x17 :: x18 :: x19 :: x20 :: x21 :: y :: l) := .s .a21
theorem Me.m22 {α : Type} {x0 x1 x2 x3 x4 x5 x6 x7 x8 x9 x10 x11 x12 x13 x14 x15 x16 x17 x18 x19 x20 x21 x : α} {l : List α} : Me 22 (x0 :: x1 :: x2 :: x3 :: x4 :: x5 :: x6 :: x7 :: x8 :: x9 :: x10 :: x11 :: x12 :: x13 :: x14 :: x15 :: x16 :: x17 :: x18 :: x19 :: x20 :: x21 :: x :: l) x := .s .m21
theorem At.a23 {α : Type} {x0 x1 x2 x3 x4 x5 x6 x7 x8 x9 x10 x11 x12 x13 x14 x15 x16 x17 x18 x19 x20 x21 x22 x y : α} {l : List α} : At 23 (x0 :: x1 :: x2 :: x3 :: x4 :: x5 :: x6 :: x7 :: x8 :: x9 :: x10 :: x11 :: x12 :: x13 :: x14 :: x15 :: x16 :: x17 :: x18 :: x19 :: x20 :: x21 :: x22 :: x :: l) x y (x0 :: x1 :: x2 :: x3 :: x4 :: x5 :: x6 :: x7 :: x8 :: x9 :: x10 :: x11 :: x12 :: x13 :: x14 :: x15 :: x16 :: x17 :: x18 :: x19 :: x20 :: x21 :: x22 :: y :: l) := .s .a22
theorem Me.m23 {α : Type} {x0 x1 x2 x3 x4 x5 x6 x7 x8 x9 x10 x11 x12 x13 x14 x15 x16 x17 x18 x19 x20 x21 x22 x : α} {l : List α} : Me 23 (x0 :: x1 :: x2 :: x3 :: x4 :: x5 :: x6 :: x7 :: x8 :: x9 :: x10 :: x11 :: x12 :: x13 :: x14 :: x15 :: x16 :: x17 :: x18 :: x19 :: x20 :: x21 :: x22 :: x :: l) x := .s .m22
theorem At.a24 {α : Type} {x0 x1 x2 x3 x4 x5 x6 x7 x8 x9 x10 x11 x12 x13 x14 x15 x16 x17 x18 x19 x20 x21 x22 x23 x y : α} {l : List α} : At 24 (x0 :: x1 :: x2 :: x3 :: x4 :: x5 :: x6 :: x7 :: x8 :: x9 :: x10 :: x11 :: x12 :: x13 :: x14 :: x15 :: x16 :: x17 :: x18 :: x19 :: x20 :: x21 :: x22 :: x23 :: x :: l) x y (x0 :: x1 :: x2 :: x3 :: x4 :: x5 :: x6 :: x7 :: x8 :: x9 :: x10 :: x11 :: x12 :: x13 :: x14 :: x15 :: x16 :: x17 :: x18 :: x19 :: x20 :: x21 :: x22 :: x23 :: y :: l) := .s .a23
theorem Me.m24 {α : Type} {x0 x1 x2 x3 x4 x5 x6 x7 x8 x9 x10 x11 x12 x13 x14 x15 x16 x17 x18 x19 x20 x21 x22 x23 x : α} {l : List α} : Me 24 (x0 :: x1 :: x2 :: x3 :: x4 :: x5 :: x6 :: x7 :: x8 :: x9 :: x10 :: x11 :: x12 :: x13 :: x14 :: x15 :: x16 :: x17 :: x18 :: x19 :: x20 :: x21 :: x22 :: x23 :: x :: l) x := .s .m23
theorem At.a25 {α : Type} {x0 x1 x2 x3 x4 x5 x6 x7 x8 x9 x10 x11 x12 x13 x14 x15 x16 x17 x18 x19 x20 x21 x22 x23 x24 x y : α} {l : List α} : At 25 (x0 :: x1 :: x2 :: x3 :: x4 :: x5 :: x6 :: x7 :: x8 :: x9 :: x10 :: x11 :: x12 :: x13 :: x14 :: x15 :: x16 :: x17 :: x18 :: x19 :: x20 :: x21 :: x22 :: x23 :: x24 :: x :: l) x y (x0 :: x1 :: x2 :: x3 :: x4 :: x5 :: x6 :: x7 :: x8 :: x9 :: x10 :: x11 :: x12 :: x13 :: x14 :: x15 :: x16 :: x17 :: x18 :: x19 :: x20 :: x21 :: x22 :: x23 :: x24 :: y :: l) := .s .a24
theorem Me.m25 {α : Type} {x0 x1 x2 x3 x4 x5 x6 x7 x8 x9 x10 x11 x12 x13 x14 x15 x16 x17 x18 x19 x20 x21 x22 x23 x24 x : α} {l : List α} : Me 25 (x0 :: x1 :: x2 :: x3 :: x4 :: x5 :: x6 :: x7 :: x8 :: x9 :: x10 :: x11 :: x12 :: x13 :: x14 :: x15 :: x16 :: x17 :: x18 :: x19 :: x20 :: x21 :: x22 :: x23 :: x24 :: x :: l) x := .s .m24
theorem At.a26 {α : Type} {x0 x1 x2 x3 x4 x5 x6 x7 x8 x9 x10 x11 x12 x13 x14 x15 x16 x17 x18 x19 x20 x21 x22 x23 x24 x25 x y : α} {l : List α} : At 26 (x0 :: x1 :: x2 :: x3 :: x4 :: x5 :: x6 :: x7 :: x8 :: x9 :: x10 :: x11 :: x12 :: x13 :: x14 :: x15 :: x16 :: x17 :: x18 :: x19 :: x20 :: x21 :: x22 :: x23 :: x24 :: x25 :: x :: l) x y (x0 :: x1 :: x2 :: x3 :: x4 :: x5 :: x6 :: x7 :: x8 :: x9 :: x10 :: x11 :: x12 :: x13 :: x14 :: x15 :: x16 :: x17 :: x18 :: x19 :: x20 :: x21 :: x22 :: x23 :: x24 :: x25 :: y :: l) := .s .a25
theorem Me.m26 {α : Type} {x0 x1 x2 x3 x4 x5 x6 x7 x8 x9 x10 x11 x12 x13 x14 x15 x16 x17 x18 x19 x20 x21 x22 x23 x24 x25 x : α} {l : List α} : Me 26 (x0 :: x1 :: x2 :: x3 :: x4 :: x5 :: x6 :: x7 :: x8 :: x9 :: x10 :: x11 :: x12 :: x13 :: x14 :: x15 :: x16 :: x17 :: x18 :: x19 :: x20 :: x21 :: x22 :: x23 :: x24 :: x25 :: x :: l) x := .s .m25
theorem At.a27 {α : Type} {x0 x1 x2 x3 x4 x5 x6 x7 x8 x9 x10 x11 x12 x13 x14 x15 x16 x17 x18 x19 x20 x21 x22 x23 x24 x25 x26 x y : α} {l : List α} : At 27 (x0 :: x1 :: x2 :: x3 :: x4 :: x5 :: x6 :: x7 :: x8 :: x9 :: x10 :: x11 :: x12 :: x13 :: x14 :: x15 :: x16 :: x17 :: x18 :: x19 :: x20 :: x21 :: x22 :: x23 :: x24 :: x25 :: x26 :: x :: l) x y (x0 :: x1 :: x2 :: x3 :: x4 :: x5 :: x6 :: x7 :: x8 :: x9 :: x10 :: x11 :: x12 :: x13 :: x14 :: x15 :: x16 :: x17 :: x18 :: x19 :: x20 :: x21 :: x22 :: x23 :: x24 :: x25 :: x26 :: y :: l) := .s .a26
theorem Me.m27 {α : Type} {x0 x1 x2 x3 x4 x5 x6 x7 x8 x9 x10 x11 x12 x13 x14 x15 x16 x17 x18 x19 x20 x21 x22 x23 x24 x25 x26 x : α} {l : List α} : Me 27 (x0 :: x1 :: x2 :: x3 :: x4 :: x5 :: x6 :: x7 :: x8 :: x9 :: x10 :: x11 :: x12 :: x13 :: x14 :: x15 :: x16 :: x17 :: x18 :: x19 :: x20 :: x21 :: x22 :: x23 :: x24 :: x25 :: x26 :: x :: l) x := .s .m26
theorem At.a28 {α : Type} {x0 x1 x2 x3 x4 x5 x6 x7 x8 x9 x10 x11 x12 x13 x14 x15 x16 x17 x18 x19 x20 x21 x22 x23 x24 x25 x26 x27 x y : α} {l : List α} : At 28 (x0 :: x1 :: x2 :: x3 :: x4 :: x5 :: x6 :: x7 :: x8 :: x9 :: x10 :: x11 :: x12 :: x13 :: x14 :: x15 :: x16 :: x17 :: x18 :: x19 :: x20 :: x21 :: x22 :: x23 :: x24 :: x25 :: x26 :: x27 :: x :: l) x y (x0 :: x1 :: x2 :: x3 :: x4 :: x5 :: x6 :: x7 :: x8 :: x9 :: x10 :: x11 :: x12 :: x13 :: x14 :: x15 :: x16 :: x17 :: x18 :: x19 :: x20 :: x21 :: x22 :: x23 :: x24 :: x25 :: x26 :: x27 :: y :: l) := .s .a27
theorem Me.m28 {α : Type} {x0 x1 x2 x3 x4 x5 x6 x7 x8 x9 x10 x11 x12 x13 x14 x15 x16 x17 x18 x19 x20 x21 x22 x23 x24 x25 x26 x27 x : α} {l : List α} : Me 28 (x0 :: x1 :: x2 :: x3 :: x4 :: x5 :: x6 :: x7 :: x8 :: x9 :: x10 :: x11 :: x12 :: x13 :: x14 :: x15 :: x16 :: x17 :: x18 :: x19 :: x20 :: x21 :: x22 :: x23 :: x24 :: x25 :: x26 :: x27 :: x :: l) x := .s .m27
theorem At.a29 {α : Type} {x0 x1 x2 x3 x4 x5 x6 x7 x8 x9 x10 x11 x12 x13 x14 x15 x16 x17 x18 x19 x20 x21 x22 x23 x24 x25 x26 x27 x28 x y : α} {l : List α} : At 29 (x0 :: x1 :: x2 :: x3 :: x4 :: x5 :: x6 :: x7 :: x8 :: x9 :: x10 :: x11 :: x12 :: x13 :: x14 :: x15 :: x16 :: x17 :: x18 :: x19 :: x20 :: x21 :: x22 :: x23 :: x24 :: x25 :: x26 :: x27 :: x28 :: x :: l) x y (x0 :: x1 :: x2 :: x3 :: x4 :: x5 :: x6 :: x7 :: x8 :: x9 :: x10 :: x11 :: x12 :: x13 :: x14 :: x15 :: x16 :: x17 :: x18 :: x19 :: x20 :: x21 :: x22 :: x23 :: x24 :: x25 :: x26 :: x27 :: x28 :: y :: l) := .s .a28
theorem Me.m29 {α : Type} {x0 x1 x2 x3 x4 x5 x6 x7 x8 x9 x10 x11 x12 x13 x14 x15 x16 x17 x18 x19 x20 x21 x22 x23 x24 x25 x26 x27 x28 x : α} {l : List α} : Me 29 (x0 :: x1 :: x2 :: x3 :: x4 :: x5 :: x6 :: x7 :: x8 :: x9 :: x10 :: x11 :: x12 :: x13 :: x14 :: x15 :: x16 :: x17 :: x18 :: x19 :: x20 :: x21 :: x22 :: x23 :: x24 :: x25 :: x26 :: x27 :: x28 :: x :: l) x := .s .m28
theorem At.a30 {α : Type} {x0 x1 x2 x3 x4 x5 x6 x7 x8 x9 x10 x11 x12 x13 x14 x15 x16 x17 x18 x19 x20 x21 x22 x23 x24 x25 x26 x27 x28 x29 x y : α} {l : List α} : At 30 (x0 :: x1 :: x2 :: x3 :: x4 :: x5 :: x6 :: x7 :: x8 :: x9 :: x10 :: x11 :: x12 :: x13 :: x14 :: x15 :: x16 :: x17 :: x18 :: x19 :: x20 :: x21 :: x22 :: x23 :: x24 :: x25 :: x26 :: x27 :: x28 :: x29 :: x :: l) x y (x0 :: x1 :: x2 :: x3 :: x4 :: x5 :: x6 :: x7 :: x8 :: x9 :: x10 :: x11 :: x12 :: x13 :: x14 :: x15 :: x16 :: x17 :: x18 :: x19 :: x20 :: x21 :: x22 :: x23 :: x24 :: x25 :: x26 :: x27 :: x28 :: x29 :: y :: l) := .s .a29
theorem Me.m30 {α : Type} {x0 x1 x2 x3 x4 x5 x6 x7 x8 x9 x10 x11 x12 x13 x14 x15 x16 x17 x18 x19 x20 x21 x22 x23 x24 x25 x26 x27 x28 x29 x : α} {l : List α} : Me 30 (x0 :: x1 :: x2 :: x3 :: x4 :: x5 :: x6 :: x7 :: x8 :: x9 :: x10 :: x11 :: x12 :: x13 :: x14 :: x15 :: x16 :: x17 :: x18 :: x19 :: x20 :: x21 :: x22 :: x23 :: x24 :: x25 :: x26 :: x27 :: x28 :: x29 :: x :: l) x := .s .m29
theorem At.a31 {α : Type} {x0 x1 x2 x3 x4 x5 x6 x7 x8 x9 x10 x11 x12 x13 x14 x15 x16 x17 x18 x19 x20 x21 x22 x23 x24 x25 x26 x27 x28 x29 x30 x y : α} {l : List α} : At 31 (x0 :: x1 :: x2 :: x3 :: x4 :: x5 :: x6 :: x7 :: x8 :: x9 :: x10 :: x11 :: x12 :: x13 :: x14 :: x15 :: x16 :: x17 :: x18 :: x19 :: x20 :: x21 :: x22 :: x23 :: x24 :: x25 :: x26 :: x27 :: x28 :: x29 :: x30 :: x :: l) x y (x0 :: x1 :: x2 :: x3 :: x4 :: x5 :: x6 :: x7 :: x8 :: x9 :: x10 :: x11 :: x12 :: x13 :: x14 :: x15 :: x16 :: x17 :: x18 :: x19 :: x20 :: x21 :: x22 :: x23 :: x24 :: x25 :: x26 :: x27 :: x28 :: x29 :: x30 :: y :: l) := .s .a30
theorem Me.m31 {α : Type} {x0 x1 x2 x3 x4 x5 x6 x7 x8 x9 x10 x11 x12 x13 x14 x15 x16 x17 x18 x19 x20 x21 x22 x23 x24 x25 x26 x27 x28 x29 x30 x : α} {l : List α} : Me 31 (x0 :: x1 :: x2 :: x3 :: x4 :: x5 :: x6 :: x7 :: x8 :: x9 :: x10 :: x11 :: x12 :: x13 :: x14 :: x15 :: x16 :: x17 :: x18 :: x19 :: x20 :: x21 :: x22 :: x23 :: x24 :: x25 :: x26 :: x27 :: x28 :: x29 :: x30 :: x :: l) x := .s .m30
theorem At.a32 {α : Type} {x0 x1 x2 x3 x4 x5 x6 x7 x8 x9 x10 x11 x12 x13 x14 x15 x16 x17 x18 x19 x20 x21 x22 x23 x24 x25 x26 x27 x28 x29 x30 x31 x y : α} {l : List α} : At 32 (x0 :: x1 :: x2 :: x3 :: x4 :: x5 :: x6 :: x7 :: x8 :: x9 :: x10 :: x11 :: x12 :: x13 :: x14 :: x15 :: x16 :: x17 :: x18 :: x19 :: x20 :: x21 :: x22 :: x23 :: x24 :: x25 :: x26 :: x27 :: x28 :: x29 :: x30 :: x31 :: x :: l) x y (x0 :: x1 :: x2 :: x3 :: x4 :: x5 :: x6 :: x7 :: x8 :: x9 :: x10 :: x11 :: x12 :: x13 :: x14 :: x15 :: x16 :: x17 :: x18 :: x19 :: x20 :: x21 :: x22 :: x23 :: x24 :: x25 :: x26 :: x27 :: x28 :: x29 :: x30 :: x31 :: y :: l) := .s .a31
theorem Me.m32 {α : Type} {x0 x1 x2 x3 x4 x5 x6 x7 x8 x9 x10 x11 x12 x13 x14 x15 x16 x17 x18 x19 x20 x21 x22 x23 x24 x25 x26 x27 x28 x29 x30 x31 x : α} {l : List α} : Me 32 (x0 :: x1 :: x2 :: x3 :: x4 :: x5 :: x6 :: x7 :: x8 :: x9 :: x10 :: x11 :: x12 :: x13 :: x14 :: x15 :: x16 :: x17 :: x18 :: x19 :: x20 :: x21 :: x22 :: x23 :: x24 :: x25 :: x26 :: x27 :: x28 :: x29 :: x30 :: x31 :: x :: l) x := .s .m31
section
variable {α : Type} {n : Nat} {l l' : List α} {x y : α}
theorem At.get (h : At n l x y l') : l[n]? = some x := by
  induction h with
  | z => rfl
  | s _ ih => simpa using ih
theorem At.set (h : At n l x y l') : l.set n y = l' := by
  induction h with
  | z => rfl
  | s _ ih => simpa using ih
theorem Me.get (h : Me n l x) : l[n]? = some x := by
  induction h with
  | z => rfl
  | s _ ih => simpa using ih
end
/-- Those at these places. -/
inductive Pk {α : Type} : List Nat → List α → List α → Prop
  | n {l : List α} : Pk [] l []
  | c {i : Nat} {is : List Nat} {l xs : List α} {x : α} : Me i l x → Pk is l xs → Pk (i :: is) l (x :: xs)
theorem Pk.map {α : Type} {is : List Nat} {l xs : List α} (h : Pk is l xs) : is.map (fun i => l[i]?) = xs.map some := by
  induction h with
  | n => rfl
  | c h1 _ ih => rw [List.map_cons, List.map_cons, ih, h1.get]
theorem fold_all : ∀ (us vs pre : List Value), vs.length = us.length → (us.foldl (fun (p : List Value × Nat) u => (p.1.set p.2 u, p.2 + 1)) (pre ++ vs, pre.length)).1 = pre ++ us
  | [], [], pre, _ => rfl
  | u :: us, v :: vs, pre, h => by
    have h1 : (pre ++ v :: vs).set pre.length u = (pre ++ [u]) ++ vs := by simp
    have h2 := fold_all us vs (pre ++ [u]) (by simpa using h)
    simp only [List.foldl_cons, h1]
    simpa using h2
theorem fold_whole {us vs : List Value} (h : vs.length = us.length) : (us.foldl (fun (p : List Value × Nat) u => (p.1.set p.2 u, p.2 + 1)) (vs, 0)).1 = us := fold_all us vs [] h
section
def isSt (o : Oper) : Bool := match o.op with | .store _ _ _ => true | _ => false
def stT (o : Oper) : TypeId := match o.op with | .store t _ _ => t | _ => 0
def stA (o : Oper) : Operand := match o.op with | .store _ x _ => x | _ => .tmp 0
def stV (o : Oper) : Operand := match o.op with | .store _ _ y => y | _ => .tmp 0
theorem isSt_op {o : Oper} (h : isSt o = true) : o.op = .store (stT o) (stA o) (stV o) := by
  unfold isSt at h
  unfold stT stA stV
  split at h
  · rename_i e; rw [e]
  · cases h
def isLd (o : Oper) : Bool := match o.op with | .load _ _ => true | _ => false
def ldT (o : Oper) : TypeId := match o.op with | .load t _ => t | _ => 0
def ldA (o : Oper) : Operand := match o.op with | .load _ x => x | _ => .tmp 0
theorem isLd_op {o : Oper} (h : isLd o = true) : o.op = .load (ldT o) (ldA o) := by
  unfold isLd at h
  unfold ldT ldA
  split at h
  · rename_i e; rw [e]
  · cases h
def isBx (o : Oper) : Bool := match o.op with | .box _ _ => true | _ => false
def bxT (o : Oper) : TypeId := match o.op with | .box t _ => t | _ => 0
def bxV (o : Oper) : Operand := match o.op with | .box _ x => x | _ => .tmp 0
theorem isBx_op {o : Oper} (h : isBx o = true) : o.op = .box (bxT o) (bxV o) := by
  unfold isBx at h
  unfold bxT bxV
  split at h
  · rename_i e; rw [e]
  · cases h
def isAl (o : Oper) : Bool := match o.op with | .alloc _ => true | _ => false
def alT (o : Oper) : TypeId := match o.op with | .alloc t => t | _ => 0
theorem isAl_op {o : Oper} (h : isAl o = true) : o.op = .alloc (alT o) := by
  unfold isAl at h
  unfold alT
  split at h
  · rename_i e; rw [e]
  · cases h
theorem pr1 {α β : Type _} {a c : α} {b d : β} (h : (a, b) = (c, d)) : a = c := congrArg Prod.fst h
theorem pr2 {α β : Type _} {a c : α} {b d : β} (h : (a, b) = (c, d)) : b = d := congrArg Prod.snd h
end
section
variable {P : Program} {n : Nat} {ops : Array Oper} {Q : Exit → Act → World → Prop} {w0 : World} {T : Tl} {L L' : List Res} {rest : List Oper} {o : Oper}
theorem look_sub {T : Tl} : ∀ T' : Tl, T'.map (fun p => look T p.1) = T'.map (fun p => some p.2) → ∀ s v, look T' s = some v → look T s = some v
  | [], _, s, v, h => by cases h
  | (d, u) :: T', hq, s, v, h => by
    simp only [List.map_cons, List.cons.injEq] at hq
    simp only [look] at h
    cases hb : Nat.beq d s with
    | true => rw [hb] at h; cases h; have := Nat.eq_of_beq_eq_true hb; subst this; exact hq.1
    | false => rw [hb] at h; exact look_sub T' hq.2 s v h
theorem Ag.sub {T T' : Tl} {a : Act} (h : Ag n T a) (hq : T'.map (fun p => look T p.1) = T'.map (fun p => some p.2)) : Ag n T' a := ⟨h.size, h.defers, fun s v hs => h.at_ s v (look_sub T' hq s v hs)⟩
theorem C.sl {c : Code} (T' : Tl) (k : C P n Q w0 T' L c) (hq : T'.map (fun p => look T p.1) = T'.map (fun p => some p.2) := by kernel_rfl) : C P n Q w0 T L c := fun a w hA S => k a w (hA.sub hq) S
theorem C.yy {c : Operand} {x y : Code} (h : C P n Q w0 T L x) (hk : (known T c, ev T c) = (true, .bool true) := by kernel_rfl) : C P n Q w0 T L (.cond c x y) := C.yes (pr1 hk) (pr2 hk) h
theorem C.nn {c : Operand} {x y : Code} (h : C P n Q w0 T L y) (hk : (known T c, ev T c) = (true, .bool false) := by kernel_rfl) : C P n Q w0 T L (.cond c x y) := C.no (pr1 hk) (pr2 hk) h
theorem G.p (v : Value) (k : G P n ops Q w0 (up o.dst v T) L rest) (hq : (chk n T ops o, fun w => (execOp (ev T) o).run P w) = (true, fun w => .ok (.value v) w) := by kernel_rfl) : G P n ops Q w0 T L (o :: rest) := G.pure v (pr1 hq) (fun w => congrFun (pr2 hq) w) k
theorem G.q (v0 v : Value) (he : v0 = v) (k : G P n ops Q w0 (up o.dst v T) L rest) (hq : (chk n T ops o, fun w => (execOp (ev T) o).run P w) = (true, fun w => .ok (.value v0) w) := by kernel_rfl) : G P n ops Q w0 T L (o :: rest) := G.pureq v0 v (pr1 hq) (fun w => congrFun (pr2 hq) w) he k
theorem G.k (k : G P n ops Q w0 (up o.dst undef T) L rest) (hc : chkNo n T ops o = true := by kernel_rfl) : G P n ops Q w0 T L (o :: rest) := G.skip hc k
theorem G.c (f : FuncId) (args : Array Value) (h : ∀ w, St w0 w L → Calls P f args w fun e w' => ∃ v L', e = .returned v ∧ St w0 w' L' ∧ G P n ops Q w0 (up o.dst v T) L' rest) (hq : (chk n T ops o, fun w => (execOp (ev T) o).run P w) = (true, fun w => .ok (.enter f args) w) := by kernel_rfl) : G P n ops Q w0 T L (o :: rest) := G.call f args (pr1 hq) (fun w => congrFun (pr2 hq) w) h
theorem G.cp (f : FuncId) (args : Array Value) (v : Value) (h : ∀ w, St w0 w L → Calls P f args w fun e w' => e = .returned v ∧ Below w.heap.size w w') (k : G P n ops Q w0 (up o.dst v T) L rest) (hq : (chk n T ops o, fun w => (execOp (ev T) o).run P w) = (true, fun w => .ok (.enter f args) w) := by kernel_rfl) : G P n ops Q w0 T L (o :: rest) := G.plain f args v (pr1 hq) (fun w => congrFun (pr2 hq) w) h k
theorem G.b (vs : List Value) (k : ∀ b, G P n ops Q w0 (up o.dst (.pointer (some ⟨b, 0, none⟩)) T) (vr b vs :: L) rest) (hq : (isBx o, chk n T ops o, (ev T (bxV o)).cells) = (true, true, vs.toArray) := by kernel_rfl) : G P n ops Q w0 T L (o :: rest) := G.box (bxT o) (bxV o) vs (isBx_op (pr1 hq)) (pr1 (pr2 hq)) (pr2 (pr2 hq)) k
theorem G.a (z : Value) (vs : List Value) (k : ∀ b, G P n ops Q w0 (up o.dst (.pointer (some ⟨b, 0, none⟩)) T) (vr b vs :: L) rest) (hq : (isAl o, chk n T ops o, (fun w => (zeroValue (alT o)).run P w), z.cells) = (true, true, (fun w => .ok z w), vs.toArray) := by kernel_rfl) : G P n ops Q w0 T L (o :: rest) := G.alloc (alT o) z vs (isAl_op (pr1 hq)) (pr1 (pr2 hq)) (fun w => congrFun (pr1 (pr2 (pr2 hq))) w) (pr2 (pr2 (pr2 hq))) k
theorem G.ar (vs : List Value) (k : ∀ b, G P n ops Q w0 (up o.dst (.pointer (some ⟨b, 0, none⟩)) T) (vr b vs :: L) rest) (hq : (isAl o, chk n T ops o, (fun w => (zeroValue (alT o)).run P w)) = (true, true, (fun w => .ok (.agg vs.toArray) w)) := by kernel_rfl) : G P n ops Q w0 T L (o :: rest) := G.alloc (alT o) (.agg vs.toArray) vs (isAl_op (pr1 hq)) (pr1 (pr2 hq)) (fun w => congrFun (pr2 (pr2 hq)) w) rfl k
theorem G.pk {is : List Nat} (h : Pk is L L') (k : G P n ops Q w0 T L' rest) (hn : is.Nodup := by decide) : G P n ops Q w0 T L rest := fun a w hA S => k a w hA (St.pick S is L' h.map hn)
theorem C.pk {is : List Nat} {c : Code} (h : Pk is L L') (k : C P n Q w0 T L' c) (hn : is.Nodup := by decide) : C P n Q w0 T L c := fun a w hA S => k a w hA (St.pick S is L' h.map hn)
theorem G.lw {i b : Nat} {vs : List Value} (hm : Me i L (vr b vs)) (k : G P n ops Q w0 (up o.dst (.agg vs.toArray) T) L rest) (hq : (isLd o, chk n T ops o, ev T (ldA o), isRow P (ldT o), (P.info? (ldT o)).map (·.size)) = (true, true, .pointer (some ⟨b, 0, none⟩), true, some vs.length) := by kernel_rfl) : G P n ops Q w0 T L (o :: rest) :=
  G.ld (ldT o) (ldA o) b 0 i vs vs (isLd_op (pr1 hq)) (pr1 (pr2 hq)) (pr1 (pr2 (pr2 hq))) hm.get (by rw [List.drop_zero, List.take_length]) (pr1 (pr2 (pr2 (pr2 hq)))) (pr2 (pr2 (pr2 (pr2 hq)))) k
theorem G.lp {i b : Nat} {vs : List Value} (off : Nat) (cs : List Value) (hm : Me i L (vr b vs)) (k : G P n ops Q w0 (up o.dst (.agg cs.toArray) T) L rest) (hq : (isLd o, chk n T ops o, ev T (ldA o), isRow P (ldT o), (P.info? (ldT o)).map (·.size), (vs.drop off).take cs.length) = (true, true, .pointer (some ⟨b, off, none⟩), true, some cs.length, cs) := by kernel_rfl) : G P n ops Q w0 T L (o :: rest) :=
  G.ld (ldT o) (ldA o) b off i vs cs (isLd_op (pr1 hq)) (pr1 (pr2 hq)) (pr1 (pr2 (pr2 hq))) hm.get (pr2 (pr2 (pr2 (pr2 (pr2 hq))))) (pr1 (pr2 (pr2 (pr2 hq)))) (pr1 (pr2 (pr2 (pr2 (pr2 hq))))) k
theorem G.g {i b off : Nat} {vs : List Value} (v : Value) (hm : Me i L (vr b vs)) (hv : Me off vs v) (k : G P n ops Q w0 (up o.dst v T) L rest) (hq : (isLd o, chk n T ops o, ev T (ldA o), isCell P (ldT o)) = (true, true, .pointer (some ⟨b, off, none⟩), true) := by kernel_rfl) : G P n ops Q w0 T L (o :: rest) :=
  G.ld1 (ldT o) (ldA o) b off i vs v (isLd_op (pr1 hq)) (pr1 (pr2 hq)) (pr1 (pr2 (pr2 hq))) hm.get hv.get (pr2 (pr2 (pr2 hq))) k
theorem G.sw {i b : Nat} {vs : List Value} (us : List Value) (ha : At i L (vr b vs) (vr b us) L') (k : G P n ops Q w0 (up o.dst undef T) L' rest) (hq : (isSt o, chk n T ops o, ev T (stA o), (ev T (stV o)).cells, (P.info? (stT o)).map (·.size), us.all (·.oneCell'), vs.length) = (true, true, .pointer (some ⟨b, 0, none⟩), us.toArray, some us.length, true, us.length) := by kernel_rfl) : G P n ops Q w0 T L (o :: rest) :=
  G.sto (stT o) (stA o) (stV o) b 0 i vs us us L' (isSt_op (pr1 hq)) (pr1 (pr2 hq)) (pr1 (pr2 (pr2 hq))) (pr1 (pr2 (pr2 (pr2 hq)))) ha.get (fold_whole (pr2 (pr2 (pr2 (pr2 (pr2 (pr2 hq))))))) ha.set (Nat.ble_eq_true_of_le (by rw [Nat.zero_add]; exact Nat.le_of_eq (pr2 (pr2 (pr2 (pr2 (pr2 (pr2 hq)))))).symm)) (pr1 (pr2 (pr2 (pr2 (pr2 hq))))) (pr1 (pr2 (pr2 (pr2 (pr2 (pr2 hq)))))) k
theorem lt_at {α : Type} {n : Nat} {l l' : List α} {x y : α} (h : At n l x y l') : n < l.length := (List.getElem?_eq_some_iff.1 h.get).1
theorem G.s {i b off : Nat} {vs vs' : List Value} {u : Value} (v : Value) (ha : At i L (vr b vs) (vr b vs') L') (hv : At off vs u v vs') (k : G P n ops Q w0 (up o.dst undef T) L' rest) (hq : (isSt o, chk n T ops o, ev T (stA o), (ev T (stV o)).cells, (P.info? (stT o)).map (·.size), v.oneCell') = (true, true, .pointer (some ⟨b, off, none⟩), #[v], some 1, true) := by kernel_rfl) : G P n ops Q w0 T L (o :: rest) :=
  G.sto (stT o) (stA o) (stV o) b off i vs [v] vs' L' (isSt_op (pr1 hq)) (pr1 (pr2 hq)) (pr1 (pr2 (pr2 hq))) (pr1 (pr2 (pr2 (pr2 hq)))) ha.get hv.set ha.set (Nat.ble_eq_true_of_le (lt_at hv)) (pr1 (pr2 (pr2 (pr2 (pr2 hq))))) (by simp [(pr2 (pr2 (pr2 (pr2 (pr2 hq)))))]) k
theorem G.hw {α : Type} {r : Rp α} {i b off lo hi : Nat} {pre post : List α} {es : List Value} {F1 F2 : List Nat} (k : Nat) (us : List Value) (ha : At i L (hole r b off lo hi pre post es F1 F2) (hole r b off lo hi pre post us F1 F2) L') (hk : pre.length = k) (kk : G P n ops Q w0 (up o.dst undef T) L' rest)
    (hq : (isSt o, chk n T ops o, ev T (stA o), (ev T (stV o)).cells, (P.info? (stT o)).map (·.size), us.all (·.oneCell'), es.length) = (true, true, .pointer (some ⟨b, off + k * r.sz, none⟩), us.toArray, some us.length, true, us.length) := by kernel_rfl) : G P n ops Q w0 T L (o :: rest) :=
  G.hsto (stT o) (stA o) (stV o) b (off + k * r.sz) 0 i us us L' (isSt_op (pr1 hq)) (pr1 (pr2 hq)) (pr1 (pr2 (pr2 hq))) (pr1 (pr2 (pr2 (pr2 hq)))) ha.get hk rfl rfl (fold_whole (pr2 (pr2 (pr2 (pr2 (pr2 (pr2 hq))))))) ha.set (Nat.ble_eq_true_of_le (by rw [Nat.zero_add]; exact Nat.le_of_eq (pr2 (pr2 (pr2 (pr2 (pr2 (pr2 hq)))))).symm)) (pr1 (pr2 (pr2 (pr2 (pr2 hq))))) (pr1 (pr2 (pr2 (pr2 (pr2 (pr2 hq)))))) kk
theorem C.shutW {α : Type} {r : Rp α} {b off lo hi lo2 hi2 : Nat} {pre post xs : List α} {x : α} {es : List Value} {F1 F2 Fi : List Nat} {M : List Res} {is : List Nat} {code : Code} (m c : Nat) (hp : Pk is L (hole r b off lo hi pre post es F1 F2 :: ow r lo2 hi2 x es Fi :: M)) (hs : 0 < r.sz) (hm : (pre ++ x :: post).length = m) (hc : m ≤ c) (hx : pre ++ x :: post = xs)
    (k : C P n Q w0 T (ow (rLsw r) w0.heap.size (max hi hi2) xs [.slice (some ⟨b, off, none⟩) m c] (b :: (F1 ++ (Fi ++ F2))) :: M) code) (hd : is.Nodup := by decide) : C P n Q w0 T L code := fun a w hA S => k a w hA (hx ▸ St.closeW (St.pick S is _ hp.map hd) hs m c hm hc)
end
section
variable {P : Program} {n : Nat} {l : List Oper} {Q : Exit → Act → World → Prop} {w0 : World} {T : Tl} {L L' L0 : List Res} {o : Oper} {Z : World → Prop} {r : Ord.Ot} {i : Nat}
theorem GT.p (v : Value) (k : GT P n l.toArray Q Z w0 (up o.dst v T) L r) (ho : l[i]? = some o := by rfl) (hq : (chk n T l.toArray o, fun w => (execOp (ev T) o).run P w) = (true, fun w => .ok (.value v) w) := by kernel_rfl) : GT P n l.toArray Q Z w0 T L (.take i r) := GT.pure v i ho (pr1 hq) (fun w => congrFun (pr2 hq) w) k
theorem GT.q (v0 v : Value) (he : v0 = v) (k : GT P n l.toArray Q Z w0 (up o.dst v T) L r) (ho : l[i]? = some o := by rfl) (hq : (chk n T l.toArray o, fun w => (execOp (ev T) o).run P w) = (true, fun w => .ok (.value v0) w) := by kernel_rfl) : GT P n l.toArray Q Z w0 T L (.take i r) := GT.pureq v0 v i ho (pr1 hq) (fun w => congrFun (pr2 hq) w) he k
theorem GT.k (k : GT P n l.toArray Q Z w0 (up o.dst undef T) L r) (ho : l[i]? = some o := by rfl) (hc : chkNo n T l.toArray o = true := by kernel_rfl) : GT P n l.toArray Q Z w0 T L (.take i r) := GT.skip i ho hc k
theorem GT.pk {is : List Nat} {t : Ord.Ot} (h : Pk is L L') (k : GT P n l.toArray Q Z w0 T L' t) (hn : is.Nodup := by decide) : GT P n l.toArray Q Z w0 T L t := fun a w hA S => k a w hA (St.pick S is L' h.map hn)
theorem GT.lw {j b : Nat} {vs : List Value} (hm : Me j L0 (vr b vs)) (k : GT P n l.toArray Q (fun w => St w0 w L0) w0 (up o.dst (.agg vs.toArray) T) L r) (ho : l[i]? = some o := by rfl) (hq : (isLd o, chk n T l.toArray o, ev T (ldA o), isRow P (ldT o), (P.info? (ldT o)).map (·.size)) = (true, true, .pointer (some ⟨b, 0, none⟩), true, some vs.length) := by kernel_rfl) : GT P n l.toArray Q (fun w => St w0 w L0) w0 T L (.take i r) :=
  GT.ld (ldT o) (ldA o) b 0 j vs vs i ho (isLd_op (pr1 hq)) (pr1 (pr2 hq)) (pr1 (pr2 (pr2 hq))) hm.get (by rw [List.drop_zero, List.take_length]) (pr1 (pr2 (pr2 (pr2 hq)))) (pr2 (pr2 (pr2 (pr2 hq)))) k
theorem GT.lp {j b : Nat} {vs : List Value} (off : Nat) (cs : List Value) (hm : Me j L0 (vr b vs)) (k : GT P n l.toArray Q (fun w => St w0 w L0) w0 (up o.dst (.agg cs.toArray) T) L r) (ho : l[i]? = some o := by rfl) (hq : (isLd o, chk n T l.toArray o, ev T (ldA o), isRow P (ldT o), (P.info? (ldT o)).map (·.size), (vs.drop off).take cs.length) = (true, true, .pointer (some ⟨b, off, none⟩), true, some cs.length, cs) := by kernel_rfl) : GT P n l.toArray Q (fun w => St w0 w L0) w0 T L (.take i r) :=
  GT.ld (ldT o) (ldA o) b off j vs cs i ho (isLd_op (pr1 hq)) (pr1 (pr2 hq)) (pr1 (pr2 (pr2 hq))) hm.get (pr2 (pr2 (pr2 (pr2 (pr2 hq))))) (pr1 (pr2 (pr2 (pr2 hq)))) (pr1 (pr2 (pr2 (pr2 (pr2 hq))))) k
theorem GT.g {j b off : Nat} {vs : List Value} (v : Value) (hm : Me j L0 (vr b vs)) (hv : Me off vs v) (k : GT P n l.toArray Q (fun w => St w0 w L0) w0 (up o.dst v T) L r) (ho : l[i]? = some o := by rfl) (hq : (isLd o, chk n T l.toArray o, ev T (ldA o), isCell P (ldT o)) = (true, true, .pointer (some ⟨b, off, none⟩), true) := by kernel_rfl) : GT P n l.toArray Q (fun w => St w0 w L0) w0 T L (.take i r) :=
  GT.ld1 (ldT o) (ldA o) b off j vs v i ho (isLd_op (pr1 hq)) (pr1 (pr2 hq)) (pr1 (pr2 (pr2 hq))) hm.get hv.get (pr2 (pr2 (pr2 hq))) k
theorem Alone.k (hz : ∀ w, St w0 w L → Z w) (k : GT P n l.toArray Q Z w0 (up o.dst undef T) L r) (ho : l[i]? = some o := by rfl) (hc : chkNo n T l.toArray o = true := by kernel_rfl) : Alone P n l.toArray Q Z w0 T L i r := Alone.skip ho hc hz k
theorem Alone.c (f : FuncId) (args : Array Value) (h : ∀ w, St w0 w L → Calls P f args w fun e w' => ∃ v L', e = .returned v ∧ St w0 w' L' ∧ (∀ w, St w0 w L' → Z w) ∧ GT P n l.toArray Q Z w0 (up o.dst v T) L' r) (ho : l[i]? = some o := by rfl) (hq : (chk n T l.toArray o, fun w => (execOp (ev T) o).run P w) = (true, fun w => .ok (.enter f args) w) := by kernel_rfl) : Alone P n l.toArray Q Z w0 T L i r := Alone.call f args ho (pr1 hq) (fun w => congrFun (pr2 hq) w) h
theorem Alone.cp (f : FuncId) (args : Array Value) (v : Value) (h : ∀ w, St w0 w L → Calls P f args w fun e w' => e = .returned v ∧ Below w.heap.size w w') (hz : ∀ w, St w0 w L → Z w) (k : GT P n l.toArray Q Z w0 (up o.dst v T) L r) (ho : l[i]? = some o := by rfl) (hq : (chk n T l.toArray o, fun w => (execOp (ev T) o).run P w) = (true, fun w => .ok (.enter f args) w) := by kernel_rfl) : Alone P n l.toArray Q Z w0 T L i r := Alone.plain f args v ho (pr1 hq) (fun w => congrFun (pr2 hq) w) h hz k
theorem Alone.b (vs : List Value) (hZ : ∀ w, St w0 w L → Z w) (k : ∀ b, GT P n l.toArray Q Z w0 (up o.dst (.pointer (some ⟨b, 0, none⟩)) T) (vr b vs :: L) r) (ho : l[i]? = some o := by rfl) (hq : (isBx o, chk n T l.toArray o, (ev T (bxV o)).cells) = (true, true, vs.toArray) := by kernel_rfl) : Alone P n l.toArray Q Z w0 T L i r := Alone.box (bxT o) (bxV o) vs ho (isBx_op (pr1 hq)) (pr1 (pr2 hq)) (pr2 (pr2 hq)) hZ k
theorem Alone.a (z : Value) (vs : List Value) (hZ : ∀ w, St w0 w L → Z w) (k : ∀ b, GT P n l.toArray Q Z w0 (up o.dst (.pointer (some ⟨b, 0, none⟩)) T) (vr b vs :: L) r) (ho : l[i]? = some o := by rfl) (hq : (isAl o, chk n T l.toArray o, (fun w => (zeroValue (alT o)).run P w), z.cells) = (true, true, (fun w => .ok z w), vs.toArray) := by kernel_rfl) : Alone P n l.toArray Q Z w0 T L i r := Alone.alloc (alT o) z vs ho (isAl_op (pr1 hq)) (pr1 (pr2 hq)) (fun w => congrFun (pr1 (pr2 (pr2 hq))) w) (pr2 (pr2 (pr2 hq))) hZ k
theorem Alone.ar (vs : List Value) (hZ : ∀ w, St w0 w L → Z w) (k : ∀ b, GT P n l.toArray Q Z w0 (up o.dst (.pointer (some ⟨b, 0, none⟩)) T) (vr b vs :: L) r) (ho : l[i]? = some o := by rfl) (hq : (isAl o, chk n T l.toArray o, (fun w => (zeroValue (alT o)).run P w)) = (true, true, (fun w => .ok (.agg vs.toArray) w)) := by kernel_rfl) : Alone P n l.toArray Q Z w0 T L i r := Alone.alloc (alT o) (.agg vs.toArray) vs ho (isAl_op (pr1 hq)) (pr1 (pr2 hq)) (fun w => congrFun (pr2 (pr2 hq)) w) rfl hZ k
theorem Alone.lw {j b : Nat} {vs : List Value} (hm : Me j L (vr b vs)) (hz : ∀ w, St w0 w L → Z w) (k : GT P n l.toArray Q Z w0 (up o.dst (.agg vs.toArray) T) L r) (ho : l[i]? = some o := by rfl) (hq : (isLd o, chk n T l.toArray o, ev T (ldA o), isRow P (ldT o), (P.info? (ldT o)).map (·.size)) = (true, true, .pointer (some ⟨b, 0, none⟩), true, some vs.length) := by kernel_rfl) : Alone P n l.toArray Q Z w0 T L i r :=
  Alone.ld (ldT o) (ldA o) b 0 j vs vs ho (isLd_op (pr1 hq)) (pr1 (pr2 hq)) (pr1 (pr2 (pr2 hq))) hm.get (by rw [List.drop_zero, List.take_length]) (pr1 (pr2 (pr2 (pr2 hq)))) (pr2 (pr2 (pr2 (pr2 hq)))) hz k
theorem Alone.lp {j b : Nat} {vs : List Value} (off : Nat) (cs : List Value) (hm : Me j L (vr b vs)) (hz : ∀ w, St w0 w L → Z w) (k : GT P n l.toArray Q Z w0 (up o.dst (.agg cs.toArray) T) L r) (ho : l[i]? = some o := by rfl) (hq : (isLd o, chk n T l.toArray o, ev T (ldA o), isRow P (ldT o), (P.info? (ldT o)).map (·.size), (vs.drop off).take cs.length) = (true, true, .pointer (some ⟨b, off, none⟩), true, some cs.length, cs) := by kernel_rfl) : Alone P n l.toArray Q Z w0 T L i r :=
  Alone.ld (ldT o) (ldA o) b off j vs cs ho (isLd_op (pr1 hq)) (pr1 (pr2 hq)) (pr1 (pr2 (pr2 hq))) hm.get (pr2 (pr2 (pr2 (pr2 (pr2 hq))))) (pr1 (pr2 (pr2 (pr2 hq)))) (pr1 (pr2 (pr2 (pr2 (pr2 hq))))) hz k
theorem Alone.g {j b off : Nat} {vs : List Value} (v : Value) (hm : Me j L (vr b vs)) (hv : Me off vs v) (hz : ∀ w, St w0 w L → Z w) (k : GT P n l.toArray Q Z w0 (up o.dst v T) L r) (ho : l[i]? = some o := by rfl) (hq : (isLd o, chk n T l.toArray o, ev T (ldA o), isCell P (ldT o)) = (true, true, .pointer (some ⟨b, off, none⟩), true) := by kernel_rfl) : Alone P n l.toArray Q Z w0 T L i r :=
  Alone.ld1 (ldT o) (ldA o) b off j vs v ho (isLd_op (pr1 hq)) (pr1 (pr2 hq)) (pr1 (pr2 (pr2 hq))) hm.get hv.get (pr2 (pr2 (pr2 hq))) hz k
theorem Alone.sw {j b : Nat} {vs : List Value} (us : List Value) (ha : At j L (vr b vs) (vr b us) L') (hZ : ∀ w, St w0 w L' → Z w) (k : GT P n l.toArray Q Z w0 (up o.dst undef T) L' r) (ho : l[i]? = some o := by rfl) (hq : (isSt o, chk n T l.toArray o, ev T (stA o), (ev T (stV o)).cells, (P.info? (stT o)).map (·.size), us.all (·.oneCell'), vs.length) = (true, true, .pointer (some ⟨b, 0, none⟩), us.toArray, some us.length, true, us.length) := by kernel_rfl) : Alone P n l.toArray Q Z w0 T L i r :=
  Alone.sto (stT o) (stA o) (stV o) b 0 j vs us us L' ho (isSt_op (pr1 hq)) (pr1 (pr2 hq)) (pr1 (pr2 (pr2 hq))) (pr1 (pr2 (pr2 (pr2 hq)))) ha.get (fold_whole (pr2 (pr2 (pr2 (pr2 (pr2 (pr2 hq))))))) ha.set (Nat.ble_eq_true_of_le (by rw [Nat.zero_add]; exact Nat.le_of_eq (pr2 (pr2 (pr2 (pr2 (pr2 (pr2 hq)))))).symm)) (pr1 (pr2 (pr2 (pr2 (pr2 hq))))) (pr1 (pr2 (pr2 (pr2 (pr2 (pr2 hq)))))) hZ k
theorem Alone.s {j b off : Nat} {vs vs' : List Value} {u : Value} (v : Value) (ha : At j L (vr b vs) (vr b vs') L') (hv : At off vs u v vs') (hZ : ∀ w, St w0 w L' → Z w) (k : GT P n l.toArray Q Z w0 (up o.dst undef T) L' r) (ho : l[i]? = some o := by rfl) (hq : (isSt o, chk n T l.toArray o, ev T (stA o), (ev T (stV o)).cells, (P.info? (stT o)).map (·.size), v.oneCell') = (true, true, .pointer (some ⟨b, off, none⟩), #[v], some 1, true) := by kernel_rfl) : Alone P n l.toArray Q Z w0 T L i r :=
  Alone.sto (stT o) (stA o) (stV o) b off j vs [v] vs' L' ho (isSt_op (pr1 hq)) (pr1 (pr2 hq)) (pr1 (pr2 (pr2 hq))) (pr1 (pr2 (pr2 (pr2 hq)))) ha.get hv.set ha.set (Nat.ble_eq_true_of_le (lt_at hv)) (pr1 (pr2 (pr2 (pr2 (pr2 hq))))) (by simp [(pr2 (pr2 (pr2 (pr2 (pr2 hq)))))]) hZ k
theorem Alone.hw {α : Type} {q : Rp α} {j b off lo hi : Nat} {pre post : List α} {es : List Value} {F1 F2 : List Nat} (k : Nat) (us : List Value) (ha : At j L (hole q b off lo hi pre post es F1 F2) (hole q b off lo hi pre post us F1 F2) L') (hk : pre.length = k) (hZ : ∀ w, St w0 w L' → Z w) (kk : GT P n l.toArray Q Z w0 (up o.dst undef T) L' r) (ho : l[i]? = some o := by rfl)
    (hq : (isSt o, chk n T l.toArray o, ev T (stA o), (ev T (stV o)).cells, (P.info? (stT o)).map (·.size), us.all (·.oneCell'), es.length) = (true, true, .pointer (some ⟨b, off + k * q.sz, none⟩), us.toArray, some us.length, true, us.length) := by kernel_rfl) : Alone P n l.toArray Q Z w0 T L i r :=
  Alone.hsto (stT o) (stA o) (stV o) b (off + k * q.sz) 0 j us us L' ho (isSt_op (pr1 hq)) (pr1 (pr2 hq)) (pr1 (pr2 (pr2 hq))) (pr1 (pr2 (pr2 (pr2 hq)))) ha.get hk rfl rfl (fold_whole (pr2 (pr2 (pr2 (pr2 (pr2 (pr2 hq))))))) ha.set (Nat.ble_eq_true_of_le (by rw [Nat.zero_add]; exact Nat.le_of_eq (pr2 (pr2 (pr2 (pr2 (pr2 (pr2 hq)))))).symm)) (pr1 (pr2 (pr2 (pr2 (pr2 hq))))) (pr1 (pr2 (pr2 (pr2 (pr2 (pr2 hq)))))) hZ kk
end
end Go.Proofs.Ytmiokacihcpepaa.Sx
