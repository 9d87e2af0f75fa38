"""Builds references for the tests from their parts, without the program's own code."""


def reference(address=0, upper=0, lower=0, power=0, seal=0, rights=0):
    bits = f"{rights:09b}{seal:03b}{power:04b}{lower:08b}{upper:08b}{address:032b}"
    if len(bits) != 64:
        raise ValueError("a part is too wide")
    return int(bits, 2)


def parts(v):
    """address, upper, lower, power, seal, rights"""
    bits = f"{v:064b}"
    ends = ((32, 64), (24, 32), (16, 24), (12, 16), (9, 12), (0, 9))
    return tuple(int(bits[first:behind], 2) for first, behind in ends)
