import Derived.Test.YtdnindaohpdblaaGreatSetA
set_option maxRecDepth 20000

set_option linter.all false
namespace Go.Proofs.YtdnindaohpdblaaGreat
namespace Dt
def sm (f:Nat->Int):Nat->Int
 | 0=>0
 | n+1=>sm f n+f n
def sg (j:Nat):Int:=if j % 2=0 then 1 else -1
def sk (j c:Nat):Nat:=if c < j then c else c+1
abbrev Mt:=Nat->Nat->Int
def mn (M:Mt)(j:Nat):Mt:=fun r c=>M (r+1) (sk j c)
def det:Nat->Mt->Int
 | 0,_=>1
 | n+1,M=>sm (fun j=>sg j*M 0 j*det n (mn M j)) (n+1)
def bo (G:Mt)(k i j:Nat):Int:=det (k+1) (fun r c=>G (if r < k then r else i) (if c < k then c else j))
theorem sg_abs (j:Nat):(sg j).natAbs=1:=by unfold sg; split <;> rfl
end Dt
end Go.Proofs.YtdnindaohpdblaaGreat

set_option maxRecDepth 20000
namespace Go.Proofs.YtdnindaohpdblaaGreat

namespace Dt
def qd (G:Mt)(x:Nat->Int)(n k:Nat):Int:=sm (fun i=>sm (fun j=>x i*x j*bo G k i j) n) n
def sd (G:Mt)(x:Nat->Int)(n k:Nat):Int:=sm (fun i=>x i*bo G k i k) n
end Dt
end Go.Proofs.YtdnindaohpdblaaGreat

set_option maxRecDepth 20000
namespace Go.Proofs.YtdnindaohpdblaaGreat

namespace Dt
def lr (k:Nat)(M:Mt)(v:Nat->Int):Mt:=fun r c=>if r=k then v c else M r c
end Dt
end Go.Proofs.YtdnindaohpdblaaGreat
