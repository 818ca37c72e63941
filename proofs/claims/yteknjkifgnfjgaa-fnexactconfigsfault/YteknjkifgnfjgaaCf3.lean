/-
  CONTRACTS: NeedOf and ReplicasOf of both programs (Nf0), beside configurations.
-/
import Derived.Test.YteknjkifgnfjgaaCf2
import Derived.Test.YteknjkifgnfjgaaNf0
import Derived.Test.YteknjkifgnfjgaaSize1
